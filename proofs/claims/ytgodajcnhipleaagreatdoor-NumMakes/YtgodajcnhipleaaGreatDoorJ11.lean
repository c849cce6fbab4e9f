import Derived.Test.YtgodajcnhipleaaGreatDoorJ10
import Derived.Deep.RegionWith
import Derived.Test.YtgodajcnhipleaaGreatDoorMem
import Derived.Test.YtgodajcnhipleaaGreatDoorJ8
import Derived.BigQuiet
import Derived.Deep.LoopGhost
namespace Go.Proofs.YtgodajcnhipleaaGreatDoor
open Go.RowKit Go.Shelf

theorem one_limb {w : World} {p : Option Addr} {m c : Nat} {xs : List Nat} {a : Nat} (h : Num w p m c xs a) (h0 : 0 < a) (hb : a < B64) : m = 1 := by
  have h1 := (h.nf.len_le B64_one (k := 1)).2 (by rw [Nat.pow_one]; exact hb)
  rw [h.at_.len] at h1
  have : m ≠ 0 := fun e => by have := h.zero.1 e; omega
  omega
theorem limb_one {w : World} {p : Option Addr} {m c : Nat} {xs : List Nat} {a : Nat} (h : Num w p m c xs a) (hm : m = 1) : xs.getD 0 0 = a := by
  have hl := h.at_.len
  rw [hm] at hl
  obtain ⟨y, rfl⟩ := List.length_eq_one_iff.1 hl
  have := h.nf.val
  simp [valB] at this
  simpa using this
set_option maxRecDepth 20000 in
set_option maxHeartbeats 4000000 in
theorem small_00 {p : Option Addr} {m c : Nat} {xs : List Nat} {a : Nat} {w : World} (h : Num w p m c xs a) (hs : false = true → 0 < a) (ha : a = 0) :
    Calls Tryz.prog 13 #[ZV false p m c] w fun e w' => e = .returned (.tuple #[.int .i64 (0), .int .i64 0]) ∧ Below w.heap.size w w' := by
  have H : Hid (Num w p m c xs a) := h
  have HS : Hid (false = true → 0 < a) := hs
  obtain rfl : m = 0 := h.zero.2 ha
  clear h hs ha
  go_enter Tryz.func13, Tryz.ntmps13
  go_wp2_with fail
  obtain ⟨W0, hW0⟩ : ∃ W0, W0 = (w.alloc (.cells #[.bool false, .slice p 0 c] 28)) := ⟨_, rfl⟩
  have Xx : Hid (Box W0 (w.heap.size) (.bool false) (.slice p 0 c)) := by rw [hW0]; exact ⟨by go_simp, by go_simp, by go_simp, by go_simp⟩
  have hb0 : Below w.heap.size w W0 := by rw [hW0]; exact below1 w _
  rw [← hW0]
  clear hW0
  have hbw : Below w.heap.size w w := Below.refl _ _
  obtain ⟨gx, hgx⟩ : ∃ g, g = w.heap.size := ⟨_, rfl⟩
  have HGx : Hid (w.heap.size ≤ gx) := by rw [hgx]; show _ ≤ _; omega
  rw [← hgx] at Xx
  try rw [← hgx]
  clear hgx
  replace H : Hid _ := H.out.below hb0
  replace hbw := Below.on hbw hb0
  clear hb0
  refine (numform_t false H.out (fun hh => by cases hh)).mono ?_
  rintro e w1 ⟨rfl, hb1⟩
  replace Xx : Hid _ := Xx.out.below hb1
  replace H : Hid _ := H.out.below hb1
  replace hbw := Below.on hbw hb1
  clear hb1
  obtain ⟨cx0, cx1, fx0, fx1⟩ := Xx.out
  have hnex : gx < w1.heap.size := World.block_lt_of_cell? w1 _ cx0
  go_wp2_with fail
  go_ret2
  exact ⟨rfl, hbw⟩
set_option maxRecDepth 20000 in
set_option maxHeartbeats 4000000 in
theorem small_l0 {p : Option Addr} {m c : Nat} {xs : List Nat} {a : Nat} {w : World} (h : Num w p m c xs a) (hs : false = true → 0 < a) (ha : 1 < m) :
    Calls Tryz.prog 13 #[ZV false p m c] w fun e w' => e = .returned (.tuple #[.int .i64 0, .int .i64 5]) ∧ Below w.heap.size w w' := by
  have H : Hid (Num w p m c xs a) := h
  have HS : Hid (false = true → 0 < a) := hs
  have hmpos : 0 < m := by omega
  obtain ⟨g, off, rfl, hc⟩ := h.at_.cells.resolve_left (by omega)
  obtain ⟨x0, hx0⟩ : ∃ x0, x0 = xs.getD 0 0 := ⟨_, rfl⟩
  have hc0 : w.cell? ⟨g, off, none⟩ = some (U x0) := by have := hc 0 hmpos; rw [Nat.add_zero, ← hx0] at this; exact this
  have hlt := World.block_lt_of_cell? w _ hc0
  have HC0 : Hid (w.cell? ⟨g, off, none⟩ = some (U x0)) := hc0
  have HLT : Hid (g < w.heap.size) := hlt
  have d1 : decide ((1 : Int) < (m : Int)) = true := decide_eq_true (by omega)
  have d2 : decide (1 < m) = true := decide_eq_true (by omega)
  have d3 : ((m : Int) == 0) = false := by simp; omega
  have d4 : ¬ m = 0 := by omega
  clear h hs hc hc0 hlt
  go_enter Tryz.func13, Tryz.ntmps13
  go_wp2_with fail
  obtain ⟨W0, hW0⟩ : ∃ W0, W0 = (w.alloc (.cells #[.bool false, .slice (some ⟨g, off, none⟩) m c] 28)) := ⟨_, rfl⟩
  have Xx : Hid (Box W0 (w.heap.size) (.bool false) (.slice (some ⟨g, off, none⟩) m c)) := by rw [hW0]; exact ⟨by go_simp, by go_simp, by go_simp, by go_simp⟩
  have hb0 : Below w.heap.size w W0 := by rw [hW0]; exact below1 w _
  rw [← hW0]
  clear hW0
  have hbw : Below w.heap.size w w := Below.refl _ _
  obtain ⟨gx, hgx⟩ : ∃ g, g = w.heap.size := ⟨_, rfl⟩
  have HGx : Hid (w.heap.size ≤ gx) := by rw [hgx]; show _ ≤ _; omega
  rw [← hgx] at Xx
  try rw [← hgx]
  clear hgx
  replace H : Hid _ := H.out.below hb0
  replace hbw := Below.on hbw hb0
  clear hb0
  refine (numform_t false H.out (fun hh => by cases hh)).mono ?_
  rintro e w1 ⟨rfl, hb1⟩
  replace Xx : Hid _ := Xx.out.below hb1
  replace H : Hid _ := H.out.below hb1
  replace hbw := Below.on hbw hb1
  clear hb1
  have hc1 : w1.cell? ⟨g, off, none⟩ = some (U x0) := (hbw.cell (p := ⟨g, off, none⟩) HLT.out).trans HC0.out
  obtain ⟨cx0, cx1, fx0, fx1⟩ := Xx.out
  have hnex : gx < w1.heap.size := World.block_lt_of_cell? w1 _ cx0
  go_wp2_with fail
  go_ret2
  exact ⟨rfl, hbw⟩
set_option maxRecDepth 20000 in
set_option maxHeartbeats 4000000 in
theorem small_l1 {p : Option Addr} {m c : Nat} {xs : List Nat} {a : Nat} {w : World} (h : Num w p m c xs a) (hs : true = true → 0 < a) (ha : 1 < m) :
    Calls Tryz.prog 13 #[ZV true p m c] w fun e w' => e = .returned (.tuple #[.int .i64 0, .int .i64 5]) ∧ Below w.heap.size w w' := by
  have H : Hid (Num w p m c xs a) := h
  have HS : Hid (true = true → 0 < a) := hs
  have hmpos : 0 < m := by omega
  obtain ⟨g, off, rfl, hc⟩ := h.at_.cells.resolve_left (by omega)
  obtain ⟨x0, hx0⟩ : ∃ x0, x0 = xs.getD 0 0 := ⟨_, rfl⟩
  have hc0 : w.cell? ⟨g, off, none⟩ = some (U x0) := by have := hc 0 hmpos; rw [Nat.add_zero, ← hx0] at this; exact this
  have hlt := World.block_lt_of_cell? w _ hc0
  have HC0 : Hid (w.cell? ⟨g, off, none⟩ = some (U x0)) := hc0
  have HLT : Hid (g < w.heap.size) := hlt
  have d1 : decide ((1 : Int) < (m : Int)) = true := decide_eq_true (by omega)
  have d2 : decide (1 < m) = true := decide_eq_true (by omega)
  have d3 : ((m : Int) == 0) = false := by simp; omega
  have d4 : ¬ m = 0 := by omega
  clear h hs hc hc0 hlt
  go_enter Tryz.func13, Tryz.ntmps13
  go_wp2_with fail
  obtain ⟨W0, hW0⟩ : ∃ W0, W0 = (w.alloc (.cells #[.bool true, .slice (some ⟨g, off, none⟩) m c] 28)) := ⟨_, rfl⟩
  have Xx : Hid (Box W0 (w.heap.size) (.bool true) (.slice (some ⟨g, off, none⟩) m c)) := by rw [hW0]; exact ⟨by go_simp, by go_simp, by go_simp, by go_simp⟩
  have hb0 : Below w.heap.size w W0 := by rw [hW0]; exact below1 w _
  rw [← hW0]
  clear hW0
  have hbw : Below w.heap.size w w := Below.refl _ _
  obtain ⟨gx, hgx⟩ : ∃ g, g = w.heap.size := ⟨_, rfl⟩
  have HGx : Hid (w.heap.size ≤ gx) := by rw [hgx]; show _ ≤ _; omega
  rw [← hgx] at Xx
  try rw [← hgx]
  clear hgx
  replace H : Hid _ := H.out.below hb0
  replace hbw := Below.on hbw hb0
  clear hb0
  refine (numform_t true H.out (fun _ => HS.out (by simp))).mono ?_
  rintro e w1 ⟨rfl, hb1⟩
  replace Xx : Hid _ := Xx.out.below hb1
  replace H : Hid _ := H.out.below hb1
  replace hbw := Below.on hbw hb1
  clear hb1
  have hc1 : w1.cell? ⟨g, off, none⟩ = some (U x0) := (hbw.cell (p := ⟨g, off, none⟩) HLT.out).trans HC0.out
  obtain ⟨cx0, cx1, fx0, fx1⟩ := Xx.out
  have hnex : gx < w1.heap.size := World.block_lt_of_cell? w1 _ cx0
  go_wp2_with fail
  go_ret2
  exact ⟨rfl, hbw⟩
set_option maxRecDepth 20000 in
set_option maxHeartbeats 4000000 in
theorem small_i0 {p : Option Addr} {m c : Nat} {xs : List Nat} {a : Nat} {w : World} (h : Num w p m c xs a) (hs : false = true → 0 < a) (ha0 : 0 < a) (ha : a < 9223372036854775808) :
    Calls Tryz.prog 13 #[ZV false p m c] w fun e w' => e = .returned (.tuple #[.int .i64 ((a : Int)), .int .i64 0]) ∧ Below w.heap.size w w' := by
  have H : Hid (Num w p m c xs a) := h
  have HS : Hid (false = true → 0 < a) := hs
  have hm1 : m = 1 := one_limb h (by omega) (by rw [B64_eq]; omega)
  have HA0 : Hid (0 < a) := ha0
  clear ha0
  have hmpos : 0 < m := by omega
  obtain ⟨g, off, rfl, hc⟩ := h.at_.cells.resolve_left (by omega)
  obtain ⟨x0, hx0⟩ : ∃ x0, x0 = xs.getD 0 0 := ⟨_, rfl⟩
  have hc0 : w.cell? ⟨g, off, none⟩ = some (U x0) := by have := hc 0 hmpos; rw [Nat.add_zero, ← hx0] at this; exact this
  have hlt := World.block_lt_of_cell? w _ hc0
  have HC0 : Hid (w.cell? ⟨g, off, none⟩ = some (U x0)) := hc0
  have HLT : Hid (g < w.heap.size) := hlt
  have hxa : x0 = a := by rw [hx0]; exact limb_one h hm1
  clear hx0
  subst hxa
  subst hm1
  have f2 : wrap64 (x0 : Int) = (x0 : Int) := by simp only [wrap64]; omega
  have d1 : decide ((9223372036854775808 : Int) < (x0 : Int)) = false := decide_eq_false (by omega)
  have d2 : ((x0 : Int) == 9223372036854775808) = false := by simp; omega
  have d3 : decide (9223372036854775808 < x0) = false := decide_eq_false (by omega)
  have d4 : ¬ 9223372036854775808 < x0 := by omega
  have d5 : ¬ x0 = 9223372036854775808 := by omega
  clear h hs hc hc0 hlt
  go_enter Tryz.func13, Tryz.ntmps13
  go_wp2_with fail
  obtain ⟨W0, hW0⟩ : ∃ W0, W0 = (w.alloc (.cells #[.bool false, .slice (some ⟨g, off, none⟩) 1 c] 28)) := ⟨_, rfl⟩
  have Xx : Hid (Box W0 (w.heap.size) (.bool false) (.slice (some ⟨g, off, none⟩) 1 c)) := by rw [hW0]; exact ⟨by go_simp, by go_simp, by go_simp, by go_simp⟩
  have hb0 : Below w.heap.size w W0 := by rw [hW0]; exact below1 w _
  rw [← hW0]
  clear hW0
  have hbw : Below w.heap.size w w := Below.refl _ _
  obtain ⟨gx, hgx⟩ : ∃ g, g = w.heap.size := ⟨_, rfl⟩
  have HGx : Hid (w.heap.size ≤ gx) := by rw [hgx]; show _ ≤ _; omega
  rw [← hgx] at Xx
  try rw [← hgx]
  clear hgx
  replace H : Hid _ := H.out.below hb0
  replace hbw := Below.on hbw hb0
  clear hb0
  refine (numform_t false H.out (fun hh => by cases hh)).mono ?_
  rintro e w1 ⟨rfl, hb1⟩
  replace Xx : Hid _ := Xx.out.below hb1
  replace H : Hid _ := H.out.below hb1
  replace hbw := Below.on hbw hb1
  clear hb1
  have hc1 : w1.cell? ⟨g, off, none⟩ = some (U x0) := (hbw.cell (p := ⟨g, off, none⟩) HLT.out).trans HC0.out
  obtain ⟨cx0, cx1, fx0, fx1⟩ := Xx.out
  have hnex : gx < w1.heap.size := World.block_lt_of_cell? w1 _ cx0
  go_wp2_with fail
  go_ret2
  exact ⟨rfl, hbw⟩
set_option maxRecDepth 20000 in
set_option maxHeartbeats 4000000 in
theorem small_i1 {p : Option Addr} {m c : Nat} {xs : List Nat} {a : Nat} {w : World} (h : Num w p m c xs a) (hs : true = true → 0 < a) (ha0 : 0 < a) (ha : a < 9223372036854775808) :
    Calls Tryz.prog 13 #[ZV true p m c] w fun e w' => e = .returned (.tuple #[.int .i64 (-(a : Int)), .int .i64 0]) ∧ Below w.heap.size w w' := by
  have H : Hid (Num w p m c xs a) := h
  have HS : Hid (true = true → 0 < a) := hs
  have hm1 : m = 1 := one_limb h (by omega) (by rw [B64_eq]; omega)
  have HA0 : Hid (0 < a) := ha0
  clear ha0
  have hmpos : 0 < m := by omega
  obtain ⟨g, off, rfl, hc⟩ := h.at_.cells.resolve_left (by omega)
  obtain ⟨x0, hx0⟩ : ∃ x0, x0 = xs.getD 0 0 := ⟨_, rfl⟩
  have hc0 : w.cell? ⟨g, off, none⟩ = some (U x0) := by have := hc 0 hmpos; rw [Nat.add_zero, ← hx0] at this; exact this
  have hlt := World.block_lt_of_cell? w _ hc0
  have HC0 : Hid (w.cell? ⟨g, off, none⟩ = some (U x0)) := hc0
  have HLT : Hid (g < w.heap.size) := hlt
  have hxa : x0 = a := by rw [hx0]; exact limb_one h hm1
  clear hx0
  subst hxa
  subst hm1
  obtain ⟨u, hu⟩ : ∃ u : Nat, u = 18446744073709551616 - x0 := ⟨_, rfl⟩
  have f1 : IntKind.u64.wrap (-(x0 : Int)) = (u : Int) := wrap_u _ _ (by have := HA0.out; omega)
  have f2 : wrap64 (u : Int) = -(x0 : Int) := by simp only [wrap64]; have := HA0.out; omega
  have F2 : Hid (wrap64 (u : Int) = -(x0 : Int)) := f2
  clear hu
  have d1 : decide ((9223372036854775808 : Int) < (x0 : Int)) = false := decide_eq_false (by omega)
  have d2 : ((x0 : Int) == 9223372036854775808) = false := by simp; omega
  have d3 : decide (9223372036854775808 < x0) = false := decide_eq_false (by omega)
  have d4 : ¬ 9223372036854775808 < x0 := by omega
  have d5 : ¬ x0 = 9223372036854775808 := by omega
  clear h hs hc hc0 hlt
  go_enter Tryz.func13, Tryz.ntmps13
  go_wp2_with fail
  obtain ⟨W0, hW0⟩ : ∃ W0, W0 = (w.alloc (.cells #[.bool true, .slice (some ⟨g, off, none⟩) 1 c] 28)) := ⟨_, rfl⟩
  have Xx : Hid (Box W0 (w.heap.size) (.bool true) (.slice (some ⟨g, off, none⟩) 1 c)) := by rw [hW0]; exact ⟨by go_simp, by go_simp, by go_simp, by go_simp⟩
  have hb0 : Below w.heap.size w W0 := by rw [hW0]; exact below1 w _
  rw [← hW0]
  clear hW0
  have hbw : Below w.heap.size w w := Below.refl _ _
  obtain ⟨gx, hgx⟩ : ∃ g, g = w.heap.size := ⟨_, rfl⟩
  have HGx : Hid (w.heap.size ≤ gx) := by rw [hgx]; show _ ≤ _; omega
  rw [← hgx] at Xx
  try rw [← hgx]
  clear hgx
  replace H : Hid _ := H.out.below hb0
  replace hbw := Below.on hbw hb0
  clear hb0
  refine (numform_t true H.out (fun _ => HS.out (by simp))).mono ?_
  rintro e w1 ⟨rfl, hb1⟩
  replace Xx : Hid _ := Xx.out.below hb1
  replace H : Hid _ := H.out.below hb1
  replace hbw := Below.on hbw hb1
  clear hb1
  have hc1 : w1.cell? ⟨g, off, none⟩ = some (U x0) := (hbw.cell (p := ⟨g, off, none⟩) HLT.out).trans HC0.out
  obtain ⟨cx0, cx1, fx0, fx1⟩ := Xx.out
  have hnex : gx < w1.heap.size := World.block_lt_of_cell? w1 _ cx0
  go_wp2_with fail
  go_ret2
  exact ⟨congrArg (fun z => Ending.returned (.tuple #[.int .i64 z, .int .i64 0])) F2.out, hbw⟩
set_option maxRecDepth 20000 in
set_option maxHeartbeats 4000000 in
theorem small_e0 {p : Option Addr} {m c : Nat} {xs : List Nat} {a : Nat} {w : World} (h : Num w p m c xs a) (hs : false = true → 0 < a) (ha : a = 9223372036854775808) :
    Calls Tryz.prog 13 #[ZV false p m c] w fun e w' => e = .returned (.tuple #[.int .i64 0, .int .i64 5]) ∧ Below w.heap.size w w' := by
  have H : Hid (Num w p m c xs a) := h
  have HS : Hid (false = true → 0 < a) := hs
  have hm1 : m = 1 := one_limb h (by omega) (by rw [B64_eq]; omega)
  have hmpos : 0 < m := by omega
  obtain ⟨g, off, rfl, hc⟩ := h.at_.cells.resolve_left (by omega)
  obtain ⟨x0, hx0⟩ : ∃ x0, x0 = xs.getD 0 0 := ⟨_, rfl⟩
  have hc0 : w.cell? ⟨g, off, none⟩ = some (U x0) := by have := hc 0 hmpos; rw [Nat.add_zero, ← hx0] at this; exact this
  have hlt := World.block_lt_of_cell? w _ hc0
  have HC0 : Hid (w.cell? ⟨g, off, none⟩ = some (U x0)) := hc0
  have HLT : Hid (g < w.heap.size) := hlt
  have hxa : x0 = a := by rw [hx0]; exact limb_one h hm1
  clear hx0
  subst hxa
  subst hm1
  subst ha
  clear h hs hc hc0 hlt
  go_enter Tryz.func13, Tryz.ntmps13
  go_wp2_with fail
  obtain ⟨W0, hW0⟩ : ∃ W0, W0 = (w.alloc (.cells #[.bool false, .slice (some ⟨g, off, none⟩) 1 c] 28)) := ⟨_, rfl⟩
  have Xx : Hid (Box W0 (w.heap.size) (.bool false) (.slice (some ⟨g, off, none⟩) 1 c)) := by rw [hW0]; exact ⟨by go_simp, by go_simp, by go_simp, by go_simp⟩
  have hb0 : Below w.heap.size w W0 := by rw [hW0]; exact below1 w _
  rw [← hW0]
  clear hW0
  have hbw : Below w.heap.size w w := Below.refl _ _
  obtain ⟨gx, hgx⟩ : ∃ g, g = w.heap.size := ⟨_, rfl⟩
  have HGx : Hid (w.heap.size ≤ gx) := by rw [hgx]; show _ ≤ _; omega
  rw [← hgx] at Xx
  try rw [← hgx]
  clear hgx
  replace H : Hid _ := H.out.below hb0
  replace hbw := Below.on hbw hb0
  clear hb0
  refine (numform_t false H.out (fun hh => by cases hh)).mono ?_
  rintro e w1 ⟨rfl, hb1⟩
  replace Xx : Hid _ := Xx.out.below hb1
  replace H : Hid _ := H.out.below hb1
  replace hbw := Below.on hbw hb1
  clear hb1
  have hc1 : w1.cell? ⟨g, off, none⟩ = some (U 9223372036854775808) := (hbw.cell (p := ⟨g, off, none⟩) HLT.out).trans HC0.out
  obtain ⟨cx0, cx1, fx0, fx1⟩ := Xx.out
  have hnex : gx < w1.heap.size := World.block_lt_of_cell? w1 _ cx0
  go_wp2_with fail
  go_ret2
  exact ⟨rfl, hbw⟩
set_option maxRecDepth 20000 in
set_option maxHeartbeats 4000000 in
theorem small_e1 {p : Option Addr} {m c : Nat} {xs : List Nat} {a : Nat} {w : World} (h : Num w p m c xs a) (hs : true = true → 0 < a) (ha : a = 9223372036854775808) :
    Calls Tryz.prog 13 #[ZV true p m c] w fun e w' => e = .returned (.tuple #[.int .i64 (-(a : Int)), .int .i64 0]) ∧ Below w.heap.size w w' := by
  have H : Hid (Num w p m c xs a) := h
  have HS : Hid (true = true → 0 < a) := hs
  have hm1 : m = 1 := one_limb h (by omega) (by rw [B64_eq]; omega)
  have hmpos : 0 < m := by omega
  obtain ⟨g, off, rfl, hc⟩ := h.at_.cells.resolve_left (by omega)
  obtain ⟨x0, hx0⟩ : ∃ x0, x0 = xs.getD 0 0 := ⟨_, rfl⟩
  have hc0 : w.cell? ⟨g, off, none⟩ = some (U x0) := by have := hc 0 hmpos; rw [Nat.add_zero, ← hx0] at this; exact this
  have hlt := World.block_lt_of_cell? w _ hc0
  have HC0 : Hid (w.cell? ⟨g, off, none⟩ = some (U x0)) := hc0
  have HLT : Hid (g < w.heap.size) := hlt
  have hxa : x0 = a := by rw [hx0]; exact limb_one h hm1
  clear hx0
  subst hxa
  subst hm1
  subst ha
  clear h hs hc hc0 hlt
  go_enter Tryz.func13, Tryz.ntmps13
  go_wp2_with fail
  obtain ⟨W0, hW0⟩ : ∃ W0, W0 = (w.alloc (.cells #[.bool true, .slice (some ⟨g, off, none⟩) 1 c] 28)) := ⟨_, rfl⟩
  have Xx : Hid (Box W0 (w.heap.size) (.bool true) (.slice (some ⟨g, off, none⟩) 1 c)) := by rw [hW0]; exact ⟨by go_simp, by go_simp, by go_simp, by go_simp⟩
  have hb0 : Below w.heap.size w W0 := by rw [hW0]; exact below1 w _
  rw [← hW0]
  clear hW0
  have hbw : Below w.heap.size w w := Below.refl _ _
  obtain ⟨gx, hgx⟩ : ∃ g, g = w.heap.size := ⟨_, rfl⟩
  have HGx : Hid (w.heap.size ≤ gx) := by rw [hgx]; show _ ≤ _; omega
  rw [← hgx] at Xx
  try rw [← hgx]
  clear hgx
  replace H : Hid _ := H.out.below hb0
  replace hbw := Below.on hbw hb0
  clear hb0
  refine (numform_t true H.out (fun _ => HS.out (by simp))).mono ?_
  rintro e w1 ⟨rfl, hb1⟩
  replace Xx : Hid _ := Xx.out.below hb1
  replace H : Hid _ := H.out.below hb1
  replace hbw := Below.on hbw hb1
  clear hb1
  have hc1 : w1.cell? ⟨g, off, none⟩ = some (U 9223372036854775808) := (hbw.cell (p := ⟨g, off, none⟩) HLT.out).trans HC0.out
  obtain ⟨cx0, cx1, fx0, fx1⟩ := Xx.out
  have hnex : gx < w1.heap.size := World.block_lt_of_cell? w1 _ cx0
  go_wp2_with fail
  go_ret2
  refine ⟨?_, hbw⟩
  show Ending.returned (.tuple #[.int .i64 (wrap64 (IntKind.u64.wrap (-9223372036854775808))), .int .i64 0]) = _
  rw [show wrap64 (IntKind.u64.wrap (-9223372036854775808)) = -9223372036854775808 from by decide +kernel]
  rfl
set_option maxRecDepth 20000 in
set_option maxHeartbeats 4000000 in
theorem small_g0 {p : Option Addr} {m c : Nat} {xs : List Nat} {a : Nat} {w : World} (h : Num w p m c xs a) (hs : false = true → 0 < a) (hm1 : m = 1) (ha : 9223372036854775808 < a) :
    Calls Tryz.prog 13 #[ZV false p m c] w fun e w' => e = .returned (.tuple #[.int .i64 0, .int .i64 5]) ∧ Below w.heap.size w w' := by
  have H : Hid (Num w p m c xs a) := h
  have HS : Hid (false = true → 0 < a) := hs
  have hmpos : 0 < m := by omega
  obtain ⟨g, off, rfl, hc⟩ := h.at_.cells.resolve_left (by omega)
  obtain ⟨x0, hx0⟩ : ∃ x0, x0 = xs.getD 0 0 := ⟨_, rfl⟩
  have hc0 : w.cell? ⟨g, off, none⟩ = some (U x0) := by have := hc 0 hmpos; rw [Nat.add_zero, ← hx0] at this; exact this
  have hlt := World.block_lt_of_cell? w _ hc0
  have HC0 : Hid (w.cell? ⟨g, off, none⟩ = some (U x0)) := hc0
  have HLT : Hid (g < w.heap.size) := hlt
  have hxa : x0 = a := by rw [hx0]; exact limb_one h hm1
  clear hx0
  subst hxa
  subst hm1
  have d1 : decide ((9223372036854775808 : Int) < (x0 : Int)) = true := decide_eq_true (by omega)
  have d3 : decide (9223372036854775808 < x0) = true := decide_eq_true (by omega)
  clear h hs hc hc0 hlt
  go_enter Tryz.func13, Tryz.ntmps13
  go_wp2_with fail
  obtain ⟨W0, hW0⟩ : ∃ W0, W0 = (w.alloc (.cells #[.bool false, .slice (some ⟨g, off, none⟩) 1 c] 28)) := ⟨_, rfl⟩
  have Xx : Hid (Box W0 (w.heap.size) (.bool false) (.slice (some ⟨g, off, none⟩) 1 c)) := by rw [hW0]; exact ⟨by go_simp, by go_simp, by go_simp, by go_simp⟩
  have hb0 : Below w.heap.size w W0 := by rw [hW0]; exact below1 w _
  rw [← hW0]
  clear hW0
  have hbw : Below w.heap.size w w := Below.refl _ _
  obtain ⟨gx, hgx⟩ : ∃ g, g = w.heap.size := ⟨_, rfl⟩
  have HGx : Hid (w.heap.size ≤ gx) := by rw [hgx]; show _ ≤ _; omega
  rw [← hgx] at Xx
  try rw [← hgx]
  clear hgx
  replace H : Hid _ := H.out.below hb0
  replace hbw := Below.on hbw hb0
  clear hb0
  refine (numform_t false H.out (fun hh => by cases hh)).mono ?_
  rintro e w1 ⟨rfl, hb1⟩
  replace Xx : Hid _ := Xx.out.below hb1
  replace H : Hid _ := H.out.below hb1
  replace hbw := Below.on hbw hb1
  clear hb1
  have hc1 : w1.cell? ⟨g, off, none⟩ = some (U x0) := (hbw.cell (p := ⟨g, off, none⟩) HLT.out).trans HC0.out
  obtain ⟨cx0, cx1, fx0, fx1⟩ := Xx.out
  have hnex : gx < w1.heap.size := World.block_lt_of_cell? w1 _ cx0
  go_wp2_with fail
  go_ret2
  exact ⟨rfl, hbw⟩
set_option maxRecDepth 20000 in
set_option maxHeartbeats 4000000 in
theorem small_g1 {p : Option Addr} {m c : Nat} {xs : List Nat} {a : Nat} {w : World} (h : Num w p m c xs a) (hs : true = true → 0 < a) (hm1 : m = 1) (ha : 9223372036854775808 < a) :
    Calls Tryz.prog 13 #[ZV true p m c] w fun e w' => e = .returned (.tuple #[.int .i64 0, .int .i64 5]) ∧ Below w.heap.size w w' := by
  have H : Hid (Num w p m c xs a) := h
  have HS : Hid (true = true → 0 < a) := hs
  have hmpos : 0 < m := by omega
  obtain ⟨g, off, rfl, hc⟩ := h.at_.cells.resolve_left (by omega)
  obtain ⟨x0, hx0⟩ : ∃ x0, x0 = xs.getD 0 0 := ⟨_, rfl⟩
  have hc0 : w.cell? ⟨g, off, none⟩ = some (U x0) := by have := hc 0 hmpos; rw [Nat.add_zero, ← hx0] at this; exact this
  have hlt := World.block_lt_of_cell? w _ hc0
  have HC0 : Hid (w.cell? ⟨g, off, none⟩ = some (U x0)) := hc0
  have HLT : Hid (g < w.heap.size) := hlt
  have hxa : x0 = a := by rw [hx0]; exact limb_one h hm1
  clear hx0
  subst hxa
  subst hm1
  have d1 : decide ((9223372036854775808 : Int) < (x0 : Int)) = true := decide_eq_true (by omega)
  have d3 : decide (9223372036854775808 < x0) = true := decide_eq_true (by omega)
  clear h hs hc hc0 hlt
  go_enter Tryz.func13, Tryz.ntmps13
  go_wp2_with fail
  obtain ⟨W0, hW0⟩ : ∃ W0, W0 = (w.alloc (.cells #[.bool true, .slice (some ⟨g, off, none⟩) 1 c] 28)) := ⟨_, rfl⟩
  have Xx : Hid (Box W0 (w.heap.size) (.bool true) (.slice (some ⟨g, off, none⟩) 1 c)) := by rw [hW0]; exact ⟨by go_simp, by go_simp, by go_simp, by go_simp⟩
  have hb0 : Below w.heap.size w W0 := by rw [hW0]; exact below1 w _
  rw [← hW0]
  clear hW0
  have hbw : Below w.heap.size w w := Below.refl _ _
  obtain ⟨gx, hgx⟩ : ∃ g, g = w.heap.size := ⟨_, rfl⟩
  have HGx : Hid (w.heap.size ≤ gx) := by rw [hgx]; show _ ≤ _; omega
  rw [← hgx] at Xx
  try rw [← hgx]
  clear hgx
  replace H : Hid _ := H.out.below hb0
  replace hbw := Below.on hbw hb0
  clear hb0
  refine (numform_t true H.out (fun _ => HS.out (by simp))).mono ?_
  rintro e w1 ⟨rfl, hb1⟩
  replace Xx : Hid _ := Xx.out.below hb1
  replace H : Hid _ := H.out.below hb1
  replace hbw := Below.on hbw hb1
  clear hb1
  have hc1 : w1.cell? ⟨g, off, none⟩ = some (U x0) := (hbw.cell (p := ⟨g, off, none⟩) HLT.out).trans HC0.out
  obtain ⟨cx0, cx1, fx0, fx1⟩ := Xx.out
  have hnex : gx < w1.heap.size := World.block_lt_of_cell? w1 _ cx0
  go_wp2_with fail
  go_ret2
  exact ⟨rfl, hbw⟩
/-- num.Small. -/
theorem small_full {p : Option Addr} {m c : Nat} {xs : List Nat} {a : Nat} {w : World} (s : Bool) (h : Num w p m c xs a) (hs : s = true → 0 < a) :
    Calls Tryz.prog 13 #[ZV s p m c] w fun e w' => e = .returned (if -9223372036854775808 ≤ iv s a ∧ iv s a ≤ 9223372036854775807 then .tuple #[.int .i64 (iv s a), .int .i64 0] else .tuple #[.int .i64 0, .int .i64 5]) ∧ Below w.heap.size w w' := by
  by_cases h0 : a = 0
  · cases s
    · rw [if_pos ⟨by rw [iv_f]; omega, by rw [iv_f]; omega⟩, show iv false a = 0 from by rw [iv_f, h0]; rfl]
      exact small_00 h hs h0
    · have := hs rfl; omega
  · by_cases hl : 1 < m
    · have hbig : B64 ≤ a := by
        rcases Nat.lt_or_ge a B64 with e | e
        · have := one_limb h (by omega) e; omega
        · exact e
      rw [B64_eq] at hbig
      cases s
      · rw [if_neg (by rw [iv_f]; omega)]; exact small_l0 h hs hl
      · rw [if_neg (by rw [iv_t]; omega)]; exact small_l1 h hs hl
    · have hm1 : m = 1 := by
        have : m ≠ 0 := fun e => by have := h.zero.1 e; omega
        omega
      rcases Nat.lt_trichotomy a 9223372036854775808 with hc | hc | hc
      · cases s
        · rw [if_pos ⟨by rw [iv_f]; omega, by rw [iv_f]; omega⟩, iv_f]; exact small_i0 h hs (by omega) hc
        · rw [if_pos ⟨by rw [iv_t]; omega, by rw [iv_t]; omega⟩, iv_t]; exact small_i1 h hs (by omega) hc
      · cases s
        · rw [if_neg (by rw [iv_f]; omega)]; exact small_e0 h hs hc
        · rw [if_pos ⟨by rw [iv_t]; omega, by rw [iv_t]; omega⟩, iv_t]; exact small_e1 h hs hc
      · cases s
        · rw [if_neg (by rw [iv_f]; omega)]; exact small_g0 h hs hm1 hc
        · rw [if_neg (by rw [iv_t]; omega)]; exact small_g1 h hs hm1 hc
end Go.Proofs.YtgodajcnhipleaaGreatDoor

namespace Go.Proofs.YtgodajcnhipleaaGreatDoor
open Go.RowKit Go.Shelf

theorem Nf.trim_self {b : Nat} {zs : List Nat} {a : Nat} (h : Nf b zs a) : trimL zs = zs := trimL_of_Top h.top
theorem Box.put {W : World} {g : Nat} {v0 v1 : Value} (h : Box W g v0 v1) (u0 u1 : Value) : Box ((W.setCell ⟨g, 0, none⟩ u0).setCell ⟨g, 1, none⟩ u1) g u0 u1 := by
  obtain ⟨c0, c1, f0, f1⟩ := h
  exact ⟨by go_simp, by go_simp, by go_simp, by go_simp⟩
set_option maxRecDepth 20000 in
set_option maxHeartbeats 4000000 in
/-- ref04.Of. -/
theorem rof_any (z : Int) (w : World) (h0 : -9223372036854775808 ≤ z) (h1 : z ≤ 9223372036854775807) :
    Calls Tryz.prog 45 #[.int .i64 z] w fun e w' => ∃ g m zs, e = .returned (.agg #[.bool (decide (z < 0)), .slice (some ⟨g, 0, none⟩) m m]) ∧ At32 w' (some ⟨g, 0, none⟩) m m zs ∧ Nf B32 zs z.natAbs ∧ m ≤ 3 ∧ Below w.heap.size w w' := by
  by_cases hz : z < 0
  · have hd : decide (z < 0) = true := decide_eq_true hz
    obtain ⟨v, hv⟩ : ∃ v : Nat, z = -((v : Int) + 1) := ⟨(-(z + 1)).toNat, by omega⟩
    have hvb : v < B64 := by rw [B64_eq]; omega
    have hV1 : v < 9223372036854775808 := by omega
    subst hv
    have e1 : -((v : Int) + 1) + 1 = -(v : Int) := by omega
    have e2 : wrap64 (-(v : Int)) = -(v : Int) := by simp only [wrap64]; omega
    have e3 : wrap64 (-((v : Int) + 1) + 1) = -(v : Int) := by simp only [wrap64]; omega
    have e4 : IntKind.u64.wrap (v : Int) = (v : Int) := wrap_u _ _ (by omega)
    have e5 : wrap64 (v : Int) = (v : Int) := by simp only [wrap64]; omega
    have HV : Hid (v < B64 ∧ v < 9223372036854775808) := ⟨hvb, hV1⟩
    clear h0 h1 hz hvb hV1
    go_enter Tryz.func45, Tryz.ntmps45
    go_wp2_with fail
    obtain ⟨W0, hW0⟩ : ∃ W0, W0 = (w.alloc (.cells #[.bool false, .slice none 0 0] 70)) := ⟨_, rfl⟩
    have Xr : Hid (Box W0 (w.heap.size) (.bool false) (.slice none 0 0)) := by rw [hW0]; exact ⟨by go_simp, by go_simp, by go_simp, by go_simp⟩
    have hb0 : Below w.heap.size w W0 := by rw [hW0]; exact below1 w _
    rw [← hW0]
    clear hW0
    have hbw : Below w.heap.size w w := Below.refl _ _
    obtain ⟨gr, hgr⟩ : ∃ g, g = w.heap.size := ⟨_, rfl⟩
    have HGr : Hid (w.heap.size ≤ gr) := by rw [hgr]; show _ ≤ _; omega
    rw [← hgr] at Xr
    try rw [← hgr]
    clear hgr
    replace hbw := Below.on hbw hb0
    clear hb0
    clear e1 e2 e3 e4 e5
    refine (rword v HV.out.1 W0).mono ?_
    rintro e w1 ⟨g1, z1, rfl, hl1, hA1, hN1, hb1⟩
    replace Xr : Hid _ := Xr.out.below hb1
    replace hbw := Below.on hbw hb1
    clear hb1
    have A1 : Hid (At32 w1 (some ⟨g1, 0, none⟩) z1.length z1.length z1) := hA1
    have N1 : Hid (Nf B32 z1 v ∧ z1.length ≤ 2) := ⟨hN1, hl1⟩
    clear hA1 hN1 hl1
    go_wp2_with fail
    rw [show Value.int IntKind.u64 1 = U 1 from rfl]
    refine (rword 1 (by decide) w1).mono ?_
    rintro e w2 ⟨g2, z2, rfl, hl2, hA2, hN2, hb2⟩
    replace Xr : Hid _ := Xr.out.below hb2
    replace A1 : Hid _ := A1.out.below hb2
    replace hbw := Below.on hbw hb2
    clear hb2
    have A2 : Hid (At32 w2 (some ⟨g2, 0, none⟩) z2.length z2.length z2) := hA2
    have N2 : Hid (Nf B32 z2 1 ∧ z2.length ≤ 2) := ⟨hN2, hl2⟩
    clear hA2 hN2 hl2
    go_wp2_with fail
    have l1 := N1.out.2
    have l2 := N2.out.2
    refine (radd_any A1.out A2.out N1.out.1 N2.out.1 (by omega) (by omega)).mono ?_
    rintro e w3 ⟨p3, m3, z3, rfl, hA3, hN3, hb3⟩
    clear l1 l2
    replace Xr : Hid _ := Xr.out.below hb3
    replace A1 : Hid _ := A1.out.below hb3
    replace A2 : Hid _ := A2.out.below hb3
    replace hbw := Below.on hbw hb3
    clear hb3
    have A3 : Hid (At32 w3 p3 m3 m3 z3) := hA3
    have N3 : Hid (Nf B32 z3 (v + 1)) := hN3
    have hm3 : m3 ≤ 3 := by rw [← hA3.len]; exact (hN3.len_le B32_one).2 (by have := HV.out.2; have h9 : B32 ^ 3 = 79228162514264337593543950336 := (by decide); rw [h9]; omega)
    have HM3 : Hid (m3 ≤ 3) := hm3
    clear hA3 hN3 hm3
    go_wp2_with fail
    have HRL : Hid (gr < w3.heap.size) := Xr.out.lt
    refine (mk04 true A3.out (by have := HM3.out; omega)).mono ?_
    rintro e w4 ⟨g4, m4, hm4, rfl, hg4, hA4, hb4⟩
    replace Xr : Hid _ := Xr.out.below hb4
    replace A1 : Hid _ := A1.out.below hb4
    replace A2 : Hid _ := A2.out.below hb4
    replace A3 : Hid _ := A3.out.below hb4
    replace hbw := Below.on hbw hb4
    clear hb4
    rw [N3.out.trim_self] at hm4 hA4
    have hm40 : 0 < m4 := by rw [hm4]; rcases Nat.eq_zero_or_pos z3.length with e | e; (have := (N3.out.zero_iff B32_one).1 (List.eq_nil_of_length_eq_zero e); omega); exact e
    rw [decide_eq_true hm40]
    have H4 : Hid (m4 = z3.length ∧ gr < g4) := ⟨hm4, Nat.lt_of_lt_of_le HRL.out hg4⟩
    clear hm4 hm40 hg4
    have A4 : Hid (At32 w4 (some ⟨g4, 0, none⟩) m4 m4 z3) := hA4
    clear hA4
    obtain ⟨cr0, cr1, fr0, fr1⟩ := Xr.out
    have hner : gr < w4.heap.size := World.block_lt_of_cell? w4 _ cr0
    go_wp2_with fail
    refine bodyPost_ret (v := .agg #[.bool true, .slice (some ⟨g4, 0, none⟩) m4 m4]) (by rw [results_cell1 rfl]; go_simp) rfl ⟨g4, m4, z3, ?_, ?_, ?_, ?_, ?_⟩
    · rw [decide_eq_true (by omega)]
    · have := H4.out.2
      exact (A4.out.setOther _ _ _ (by omega)).setOther _ _ _ (by omega)
    · rw [show (-((v : Int) + 1)).natAbs = v + 1 from by omega]; exact N3.out
    · rw [H4.out.1, A3.out.len]; exact HM3.out
    · exact bSet (bSet hbw _ _ _ HGr.out) _ _ _ HGr.out
  · have hd : decide (z < 0) = false := decide_eq_false hz
    obtain ⟨v, rfl⟩ := Int.eq_ofNat_of_zero_le (by omega : 0 ≤ z)
    have hvb : v < B64 := by rw [B64_eq]; omega
    have e4 : IntKind.u64.wrap (v : Int) = (v : Int) := wrap_u _ _ (by omega)
    have HV : Hid (v < B64) := hvb
    clear h0 h1 hz hvb
    go_enter Tryz.func45, Tryz.ntmps45
    go_wp2_with fail
    obtain ⟨W0, hW0⟩ : ∃ W0, W0 = (w.alloc (.cells #[.bool false, .slice none 0 0] 70)) := ⟨_, rfl⟩
    have Xr : Hid (Box W0 (w.heap.size) (.bool false) (.slice none 0 0)) := by rw [hW0]; exact ⟨by go_simp, by go_simp, by go_simp, by go_simp⟩
    have hb0 : Below w.heap.size w W0 := by rw [hW0]; exact below1 w _
    rw [← hW0]
    clear hW0
    have hbw : Below w.heap.size w w := Below.refl _ _
    obtain ⟨gr, hgr⟩ : ∃ g, g = w.heap.size := ⟨_, rfl⟩
    have HGr : Hid (w.heap.size ≤ gr) := by rw [hgr]; show _ ≤ _; omega
    rw [← hgr] at Xr
    try rw [← hgr]
    clear hgr
    replace hbw := Below.on hbw hb0
    clear hb0
    refine (rword v HV.out W0).mono ?_
    rintro e w1 ⟨g1, z1, rfl, hl1, hA1, hN1, hb1⟩
    replace Xr : Hid _ := Xr.out.below hb1
    replace hbw := Below.on hbw hb1
    clear hb1
    have A1 : Hid (At32 w1 (some ⟨g1, 0, none⟩) z1.length z1.length z1) := hA1
    have N1 : Hid (Nf B32 z1 v ∧ z1.length ≤ 2) := ⟨hN1, hl1⟩
    clear hA1 hN1 hl1
    go_wp2_with fail
    have HRL : Hid (gr < w1.heap.size) := Xr.out.lt
    refine (mk04 false A1.out (by have := N1.out.2; omega)).mono ?_
    rintro e w4 ⟨g4, m4, hm4, rfl, hg4, hA4, hb4⟩
    replace Xr : Hid _ := Xr.out.below hb4
    replace A1 : Hid _ := A1.out.below hb4
    replace hbw := Below.on hbw hb4
    clear hb4
    rw [N1.out.1.trim_self] at hm4 hA4
    rw [Bool.false_and]
    have H4 : Hid (m4 = z1.length ∧ gr < g4) := ⟨hm4, Nat.lt_of_lt_of_le HRL.out hg4⟩
    clear hm4 hg4
    have A4 : Hid (At32 w4 (some ⟨g4, 0, none⟩) m4 m4 z1) := hA4
    clear hA4
    obtain ⟨cr0, cr1, fr0, fr1⟩ := Xr.out
    have hner : gr < w4.heap.size := World.block_lt_of_cell? w4 _ cr0
    go_wp2_with fail
    refine bodyPost_ret (v := .agg #[.bool false, .slice (some ⟨g4, 0, none⟩) m4 m4]) (by rw [results_cell1 rfl]; go_simp) rfl ⟨g4, m4, z1, ?_, ?_, N1.out.1, ?_, ?_⟩
    · rw [decide_eq_false (Int.not_lt.2 (Int.natCast_nonneg v))]
    · have := H4.out.2
      exact (A4.out.setOther _ _ _ (by omega)).setOther _ _ _ (by omega)
    · rw [H4.out.1]; have := N1.out.2; omega
    · exact bSet (bSet hbw _ _ _ HGr.out) _ _ _ HGr.out
end Go.Proofs.YtgodajcnhipleaaGreatDoor

namespace Go.Proofs.YtgodajcnhipleaaGreatDoor
open Go.RowKit Go.Shelf

/-- A whole number as the reference keeps it. -/
structure ZR (w : World) (s : Bool) (p : Option Addr) (m : Nat) (z : Int) : Prop where
  ex : ∃ zs, At32 w p m m zs ∧ Nf B32 zs z.natAbs
  sg : s = decide (z < 0)
theorem ZR.below {w w' : World} {s : Bool} {p : Option Addr} {m : Nat} {z : Int} (h : ZR w s p m z) (hb : Below w.heap.size w w') : ZR w' s p m z := by
  obtain ⟨zs, hA, hN⟩ := h.ex
  exact ⟨⟨zs, hA.below hb, hN⟩, h.sg⟩
theorem ZR.zero {w : World} {s : Bool} {p : Option Addr} {m : Nat} {z : Int} (h : ZR w s p m z) : m = 0 ↔ z = 0 := by
  obtain ⟨zs, hA, hN⟩ := h.ex
  have h1 := hN.zero_iff B32_one
  have h2 := hA.len
  constructor
  · intro e
    have := h1.1 (List.eq_nil_of_length_eq_zero (by omega))
    omega
  · intro e
    have := h1.2 (by omega)
    rw [← h2, this]; rfl
theorem ZR.iv {w : World} {s : Bool} {p : Option Addr} {m : Nat} {z : Int} (h : ZR w s p m z) : Go.Proofs.YtgodajcnhipleaaGreatDoor.iv s z.natAbs = z := by rw [h.sg]; exact iv_abs z
theorem ZR.set {w : World} {s : Bool} {g m : Nat} {z : Int} (h : ZR w s (some ⟨g, 0, none⟩) m z) (g2 o2 : Nat) (v : Value) (hne : g ≠ g2) : ZR (w.setCell ⟨g2, o2, none⟩ v) s (some ⟨g, 0, none⟩) m z := by
  obtain ⟨zs, hA, hN⟩ := h.ex
  exact ⟨⟨zs, hA.setOther g2 o2 v hne, hN⟩, h.sg⟩
end Go.Proofs.YtgodajcnhipleaaGreatDoor

namespace Go.Proofs.YtgodajcnhipleaaGreatDoor
open Go.RowKit

variable {P : Program} {md : Region.Mode} {ops : Array Oper} {Q : Exit → Act → World → Prop} {J : World → Prop}

/-- All orders of a region, and what each operation leaves keeps J. -/
def wpJ (P : Program) (md : Region.Mode) (ops : Array Oper) (Q : Exit → Act → World → Prop) (J : World → Prop) : Nat → Array Bool → Act → World → Prop
  | 0, listed, a, w => Region.ready md ops listed = [] ∧ Q .normal a w
  | fuel + 1, listed, a, w =>
    (Region.ready md ops listed = [] → Q .normal a w) ∧
    ∀ i ∈ Region.ready md ops listed, wpOp P ops Q i (fun a' w' => J w' ∧ wpJ P md ops Q J fuel (listed.setIfInBounds i true) a' w') a w
theorem wpJ_any : ∀ (fuel : Nat) (listed : Array Bool) (a : Act) (w : World), wpJ P md ops Q J fuel listed a w → wpAny P md ops Q fuel listed a w
  | 0, _, _, _, h => h
  | fuel + 1, _, _, _, h => ⟨h.1, fun i hi => wpOp_mono (fun a' w' h' => wpJ_any fuel _ a' w' h'.2) (h.2 i hi)⟩

/-- The operation yields v in every world of J (undef, where its guard bars it). -/
def YieldsJ (P : Program) (ops : Array Oper) (J : World → Prop) (o : Oper) (v : Value) (a : Act) : Prop :=
  (Region.wanted o (yielded ops a.tmps) = true ∧ ∀ w, J w → (execOp a.eval o).run P w = .ok (.value v) w) ∨ (Region.wanted o (yielded ops a.tmps) = false ∧ v = undef)
theorem YieldsJ.wpOp {i : Nat} {o : Oper} {v : Value} {a : Act} (hi : ops[i]? = some o) (hy : YieldsJ P ops J o v a)
    {K : Act → World → Prop} {w : World} (hJ : J w) (h : K (a.put o.dst v) w) : wpOp P ops Q i K a w := by
  unfold Go.wpOp
  simp only [hi]
  rcases hy with ⟨hw, hv⟩ | ⟨hw, rfl⟩
  · simp only [hw, if_true, Oper.wp, hv w hJ, Oper.upon]
    exact .inl h
  · simp only [hw]
    exact h
theorem YieldsJ.of_same {o : Oper} {v : Value} {a a' : Act} (hy : YieldsJ P ops J o v a) (he : execOp a'.eval o = execOp a.eval o)
    (hw : Region.wanted o (yielded ops a'.tmps) = Region.wanted o (yielded ops a.tmps)) : YieldsJ P ops J o v a' := by
  unfold YieldsJ at *
  rw [he, hw]
  exact hy
theorem wpOpJ_put {j : Nat} {oi oj : Oper} {v : Value} (hj : ops[j]? = some oj) (hap : oi.apart ops oj = true)
    (hsi : ∀ cs b, oi.op ≠ .select cs b) (hsj : ∀ cs b, oj.op ≠ .select cs b)
    (hQ : ∀ c a w, Q (.panic c) (a.put oi.dst v) w → Q (.panic c) a w) {K : Act → World → Prop} {a : Act} {w : World}
    (hy : YieldsJ P ops J oi v a) (h : wpOp P ops Q j K (a.put oi.dst v) w) :
    wpOp P ops Q j (fun a' w' => YieldsJ P ops J oi v a' ∧ K (a'.put oi.dst v) w') a w := by
  obtain ⟨h1, h2, h3⟩ := Oper.apart_spec hap
  have keep : ∀ (a : Act), YieldsJ P ops J oi v a → ∀ u, YieldsJ P ops J oi v (a.put oj.dst u) := fun a hy u =>
    hy.of_same (execOp_put oi hsi a oj.dst u h3) (wanted_put oi a oj.dst u h3)
  have keepD : ∀ d, YieldsJ P ops J oi v { a with defers := d :: a.defers } := fun d => hy.of_same rfl rfl
  unfold wpOp at *
  simp only [hj] at *
  rw [wanted_put oj a oi.dst v h1] at h
  split
  · rename_i hw
    simp only [hw, if_true] at h
    rcases h with h | ⟨hasks, hlets⟩
    case inr => exact .inr ⟨by unfold Oper.asks at *; rw [execOp_put oj hsj a oi.dst v h1] at hasks; exact hasks, hlets⟩
    refine .inl ?_
    unfold Oper.wp at *
    rw [execOp_put oj hsj a oi.dst v h1] at h
    generalize (execOp a.eval oj).run P w = r at *
    cases r with
    | ok n w' =>
      cases n <;> simp only [Oper.upon] at h ⊢
      case value u => exact ⟨keep a hy u, by rw [← Act.put_comm a v u h2]; exact h⟩
      case skip => exact ⟨keep a hy _, by rw [← Act.put_comm a v undef h2]; exact h⟩
      case defer d =>
        refine ⟨keep _ (keepD d) _, ?_⟩
        rw [← Act.put_comm _ v undef h2, ← Act.put_defers]
        exact h
      case enter f args =>
        refine Calls.mono h fun e w'' he => ?_
        cases e with
        | returned u => exact ⟨keep a hy u, by rw [← Act.put_comm a v u h2]; exact he⟩
        | panicked c => exact hQ _ _ _ he
        | outgrown => exact he
      case row row args => exact Rows.mono h fun u w'' he => ⟨keep a hy u, by rw [← Act.put_comm a v u h2]; exact he⟩
    | halt x w' =>
      cases x <;> simp only [Oper.upon] at h ⊢
      case panic u => exact hQ _ _ _ h
  · rename_i hw
    simp only [hw] at h
    exact ⟨keep a hy _, by rw [← Act.put_comm a v undef h2]; exact h⟩

theorem wpJ_first {i : Nat} {oi : Oper} {v : Value} (hi : ops[i]? = some oi) (hsel : ∀ (j : Nat) (o : Oper) cs b, ops[j]? = some o → o.op ≠ .select cs b)
    (hQ : ∀ c a w, Q (.panic c) (a.put oi.dst v) w → Q (.panic c) a w) :
    ∀ (fuel : Nat) (listed : Array Bool) (a : Act) (w : World),
      (∀ j oj, ops[j]? = some oj → j ≠ i → listed.getD j true = false → (∀ e ∈ oj.after, Region.binds md e = true → e.on ≠ i) → oi.apart ops oj = true) →
      i ∈ Region.ready md ops listed → YieldsJ P ops J oi v a → J w →
      wpJ P md ops Q J fuel (listed.setIfInBounds i true) (a.put oi.dst v) w → wpJ P md ops Q J (fuel + 1) listed a w := by
  intro fuel
  induction fuel with
  | zero =>
    intro listed a w _ hr hy hJ H
    refine ⟨fun h => (by rw [h] at hr; cases hr), fun j hj => ?_⟩
    by_cases hji : j = i
    · subst hji; exact hy.wpOp hi hJ ⟨hJ, H⟩
    · have := ready_mono hj hji
      rw [H.1] at this
      cases this
  | succ fuel ih =>
    intro listed a w hfree hr hy hJ H
    refine ⟨fun h => (by rw [h] at hr; cases hr), fun j hj => ?_⟩
    by_cases hji : j = i
    · subst hji; exact hy.wpOp hi hJ ⟨hJ, H⟩
    · have h1 := H.2 j (ready_mono hj hji)
      obtain ⟨hjun, oj, hoj, hall⟩ := mem_ready.1 hj
      have hnot : ∀ e ∈ oj.after, Region.binds md e = true → e.on ≠ i := fun e he hb heq => by
        have h1 := hall e he hb
        have h0 := (mem_ready.1 hr).1
        rw [heq] at h1
        rcases Nat.lt_or_ge i listed.size with h' | h'
        · simp [h'] at h0 h1; rw [h0] at h1; cases h1
        · simp [Array.getElem?_eq_none h'] at h1
      have h2 := wpOpJ_put hoj (hfree j oj hoj hji hjun hnot) (fun cs b => hsel i oi cs b hi) (fun cs b => hsel j oj cs b hoj) hQ hy h1
      have hfree' : ∀ k ok, ops[k]? = some ok → k ≠ i → (listed.setIfInBounds j true).getD k true = false →
          (∀ e ∈ ok.after, Region.binds md e = true → e.on ≠ i) → oi.apart ops ok = true := fun k ok hk hki hun hno => by
        refine hfree k ok hk hki ?_ hno
        by_cases hjk : j = k
        · subst hjk; exact hjun
        · rw [getD_set_ne true hjk] at hun; exact hun
      refine wpOp_mono (fun a' w' h3 => ⟨h3.2.1, ih (listed.setIfInBounds j true) a' w' hfree' (ready_mono hr (Ne.symm hji)) h3.1 h3.2.1 ?_⟩) h2
      rw [Array.setIfInBounds_comm _ _ hji]
      exact h3.2.2

/-- An operation that yields in every world of J goes first. -/
theorem wpJ_take {i : Nat} {oi : Oper} {v : Value} {fuel : Nat} {listed : Array Bool} {a : Act} {w : World} (hi : ops[i]? = some oi)
    (hs : Region.noSelect ops = true) (hf : Region.free md ops listed i = true) (hr : (Region.ready md ops listed).contains i = true)
    (hQ : ∀ c a w, Q (.panic c) (a.put oi.dst v) w → Q (.panic c) a w) (hw : Region.wanted oi (yielded ops a.tmps) = true)
    (hy : ∀ w, J w → (execOp a.eval oi).run P w = .ok (.value v) w) (hJ : J w)
    (h : wpJ P md ops Q J fuel (listed.setIfInBounds i true) (a.put oi.dst v) w) : wpJ P md ops Q J (fuel + 1) listed a w :=
  wpJ_first hi (Region.noSelect_spec hs) hQ fuel listed a w (Region.free_spec hi hf) (by simpa using hr) (.inl ⟨hw, hy⟩) hJ h
/-- The one operation that is ready. -/
theorem wpJ_one {i : Nat} {o : Oper} {fuel : Nat} {listed : Array Bool} {a : Act} {w : World} (hr : Region.ready md ops listed = [i]) (ho : ops[i]? = some o)
    (hw : Region.wanted o (yielded ops a.tmps) = true)
    (h : ∀ K : Act → World → Prop, (∀ a' w', J w' → wpJ P md ops Q J fuel (listed.setIfInBounds i true) a' w' → K a' w') → Oper.wp P o a w K Q) : wpJ P md ops Q J (fuel + 1) listed a w := by
  refine ⟨fun h => (by rw [hr] at h; cases h), fun j hj => ?_⟩
  rw [hr] at hj
  obtain rfl : j = i := by simpa using hj
  unfold wpOp
  simp only [ho, hw, if_true]
  exact .inl (h _ fun a' w' h1 h2 => ⟨h1, h2⟩)
theorem wpJ_done {listed : Array Bool} {a : Act} {w : World} (hr : Region.ready md ops listed = []) (h : Q .normal a w) : ∀ fuel, wpJ P md ops Q J fuel listed a w
  | 0 => ⟨hr, h⟩
  | _ + 1 => ⟨fun _ => h, by rw [hr]; simp⟩
theorem wp_region_J (J : World → Prop) {id : Nat} {a : Act} {w : World} (hm : P.follows .mixedOrders = true)
    (h : wpJ P .any ops Q J ops.size (Array.replicate ops.size false) a w.drew) : (Code.region id ops true).wp P Q a w :=
  wp_region_any hm (wpJ_any _ _ _ _ h)
end Go.Proofs.YtgodajcnhipleaaGreatDoor

namespace Go.Proofs.YtgodajcnhipleaaGreatDoor
open Go.RowKit Go.Shelf

end Go.Proofs.YtgodajcnhipleaaGreatDoor

namespace Go.Proofs.YtgodajcnhipleaaGreatDoor
open Go.RowKit Go.Shelf

end Go.Proofs.YtgodajcnhipleaaGreatDoor

namespace Go.Proofs.YtgodajcnhipleaaGreatDoor
open Go.RowKit Go.Shelf

/-- A fraction: a / d with a sign. -/
structure FrIs (B : Nat) (w : World) (s : Bool) (a d : Nat) (p : Option Addr) (m : Nat) (zs : List Nat) (x : Bool) (hf : Int) : Prop where
  own : Own B w p m zs
  nf : Nf B64 zs (a / d)
  le : m ≤ 8192
  ex : x = decide (a % d ≠ 0)
  hf : HfIs (a % d) d hf
  lim : a < LIM
theorem FrIs.below {B : Nat} {w w' : World} {s : Bool} {a d : Nat} {p : Option Addr} {m : Nat} {zs : List Nat} {x : Bool} {hf : Int} (h : FrIs B w s a d p m zs x hf) (hb : Below w.heap.size w w') : FrIs B w' s a d p m zs x hf :=
  ⟨h.own.below hb, h.nf, h.le, h.ex, h.hf, h.lim⟩
theorem FrIs.up {B : Nat} {w : World} {s : Bool} {a d : Nat} {p : Option Addr} {m : Nat} {zs : List Nat} {hf : Int} (h : FrIs B w s a d p m zs true hf) : a / d + 1 < LIM := by
  have := ce_le (of_decide_eq_true h.ex.symm)
  have := h.lim
  omega
theorem FrIs.half {B : Nat} {w : World} {s : Bool} {a d : Nat} {p : Option Addr} {m : Nat} {zs : List Nat} {x : Bool} {hf : Int} (h : FrIs B w s a d p m zs x hf) (hd : 0 < d) (h0 : 0 ≤ hf) : x = true := by
  rw [h.ex]
  refine decide_eq_true ?_
  rcases h.hf with ⟨_, e⟩ | ⟨e, _⟩ | ⟨e, _⟩ <;> omega

end Go.Proofs.YtgodajcnhipleaaGreatDoor

namespace Go.Proofs.YtgodajcnhipleaaGreatDoor
open Go.RowKit Go.Shelf

end Go.Proofs.YtgodajcnhipleaaGreatDoor

namespace Go.Proofs.YtgodajcnhipleaaGreatDoor
open Go.RowKit

theorem Own.empty (B : Nat) (w : World) (p : Option Addr) : Own B w p 0 [] := ⟨rfl, Dig.nil _, .inl rfl⟩
theorem At.drop {w : World} {g off n c : Nat} {xs : List Nat} (h : At w (some ⟨g, off, none⟩) n c xs) (k : Nat) (hk : k < n) : At w (some ⟨g, off + k, none⟩) (n - k) (n - k) (xs.drop k) := by
  have h1 := h.len; have h2 := h.cap; have h3 := h.big
  refine ⟨by rw [List.length_drop, h1], Nat.le_refl _, by omega, h.dig.drop k, .inr ⟨g, off + k, rfl, fun j hj => ?_⟩⟩
  obtain ⟨g', off', hp, hc⟩ := h.cells.resolve_left (by omega)
  simp only [Option.some.injEq, Addr.mk.injEq, and_true] at hp
  obtain ⟨rfl, rfl⟩ := hp
  have e : (xs.drop k).getD j 0 = xs.getD (k + j) 0 := by rw [List.getD_eq_getElem?_getD, List.getD_eq_getElem?_getD, List.getElem?_drop]
  rw [e, Nat.add_assoc]; exact hc (k + j) (by omega)

end Go.Proofs.YtgodajcnhipleaaGreatDoor

namespace Go.Proofs.YtgodajcnhipleaaGreatDoor
open Go.RowKit Go.Shelf

end Go.Proofs.YtgodajcnhipleaaGreatDoor

namespace Go.Proofs.YtgodajcnhipleaaGreatDoor
open Go.RowKit Go.Shelf

/-- The world reaches that far. -/
def GeW (B : Nat) (w : World) : Prop := B ≤ w.heap.size
theorem GeW.below {B : Nat} {w w' : World} (h : GeW B w) (hb : Below w.heap.size w w') : GeW B w' := Nat.le_trans h hb.size
end Go.Proofs.YtgodajcnhipleaaGreatDoor

namespace Go.Proofs.YtgodajcnhipleaaGreatDoor
open Go.RowKit Go.Shelf

end Go.Proofs.YtgodajcnhipleaaGreatDoor

namespace Go.Proofs.YtgodajcnhipleaaGreatDoor
open Go.RowKit

/-- What DivWord has done when k limbs from the top are done. -/
structure DivRel (w : World) (g n : Nat) (zs : List Nat) (v k re : Nat) (dk : List Nat) (wr : World) : Prop where
  wrs : ∀ B, B ≤ g → Below B w wr
  row : Row wr g 0 n dk
  lo : dk.take (n - k) = zs.take (n - k)
  rlt : re < v
  sum : valB B64 (zs.drop (n - k)) = valB B64 (dk.drop (n - k)) * v + re
theorem DivRel.step {w : World} {g n : Nat} {zs : List Nat} {v k re : Nat} {dk : List Nat} {wr wr' : World} (h : DivRel w g n zs v k re dk wr) (hk : k < n) (hz : zs.length = n) {x q r : Nat}
    (hx : x = dk.getD (n - 1 - k) 0) (hq : re * B64 + x = q * v + r) (hr : r < v) (hw : ∀ B, B ≤ g → Below B w wr') (hrow : Row wr' g 0 n (dk.set (n - 1 - k) q)) : DivRel w g n zs v (k + 1) r (dk.set (n - 1 - k) q) wr' := by
  have hl := h.row.len
  have e : n - (k + 1) = n - 1 - k := by omega
  have e2 : n - 1 - k + 1 = n - k := by omega
  have hxz : x = zs.getD (n - 1 - k) 0 := hx.trans (getD_of_take h.lo (by omega))
  refine ⟨hw, hrow, ?_, hr, ?_⟩
  · rw [e, take_set_at]; exact take_of_take h.lo (by omega)
  · rw [e, drop_set_at dk _ q (by omega), valB_drop _ zs (n - 1 - k) (by omega), ← hxz, valB_cons, e2, h.sum, Nat.add_mul, Nat.mul_add]
    have e3 : B64 * (valB B64 (dk.drop (n - k)) * v) = B64 * valB B64 (dk.drop (n - k)) * v := by rw [Nat.mul_assoc]
    rw [e3, Nat.mul_comm B64 re]
    omega

end Go.Proofs.YtgodajcnhipleaaGreatDoor

namespace Go.Proofs.YtgodajcnhipleaaGreatDoor
open Go.RowKit Go.Shelf

theorem Nf.one {ys : List Nat} {b : Nat} (hy : Nf B64 ys b) (hl : ys.length = 1) : ys = [b] := by
  match ys, hl with
  | [y], _ => have := hy.val; simp [valB] at this; rw [this]
end Go.Proofs.YtgodajcnhipleaaGreatDoor

namespace Go.Proofs.YtgodajcnhipleaaGreatDoor
open Go.RowKit Go.Shelf

end Go.Proofs.YtgodajcnhipleaaGreatDoor

namespace Go.Proofs.YtgodajcnhipleaaGreatDoor
open Go.RowKit Go.Shelf

end Go.Proofs.YtgodajcnhipleaaGreatDoor

namespace Go.Proofs.YtgodajcnhipleaaGreatDoor
open Go.RowKit Go.Shelf

end Go.Proofs.YtgodajcnhipleaaGreatDoor

namespace Go.Proofs.YtgodajcnhipleaaGreatDoor
open Go.RowKit Go.Shelf

theorem Num.drewN {w : World} {p : Option Addr} {m c : Nat} {xs : List Nat} {a : Nat} (h : Num w p m c xs a) (r : Nat) : Num (w.drewN r) p m c xs a := ⟨h.at_.drewN r, h.nf, h.le⟩
end Go.Proofs.YtgodajcnhipleaaGreatDoor

namespace Go.Proofs.YtgodajcnhipleaaGreatDoor
open Go.RowKit Go.Shelf

/-- A whole number in form, as a value in the world. -/
structure ZN (w : World) (s : Bool) (p : Option Addr) (m c : Nat) (z : Int) : Prop where
  ex : ∃ xs, Num w p m c xs z.natAbs
  sg : s = decide (z < 0)
theorem ZN.below {w w' : World} {s : Bool} {p : Option Addr} {m c : Nat} {z : Int} (h : ZN w s p m c z) (hb : Below w.heap.size w w') : ZN w' s p m c z := by
  obtain ⟨xs, hx⟩ := h.ex
  exact ⟨⟨xs, hx.below hb⟩, h.sg⟩
theorem ZN.iv {w : World} {s : Bool} {p : Option Addr} {m c : Nat} {z : Int} (h : ZN w s p m c z) : iv s z.natAbs = z := by rw [h.sg]; exact iv_abs z
theorem ZN.lim {w : World} {s : Bool} {p : Option Addr} {m c : Nat} {z : Int} (h : ZN w s p m c z) : z.natAbs < LIM := by
  obtain ⟨xs, hx⟩ := h.ex
  exact hx.lim
theorem ZN.le {w : World} {s : Bool} {p : Option Addr} {m c : Nat} {z : Int} (h : ZN w s p m c z) : m ≤ 8192 := by
  obtain ⟨xs, hx⟩ := h.ex
  exact hx.le
theorem ZN.of {w : World} {p : Option Addr} {m c : Nat} {xs : List Nat} {a : Nat} {t : Bool} (h : Num w p m c xs a) (ht : t = true → 0 < a) : ZN w t p m c (Go.Proofs.YtgodajcnhipleaaGreatDoor.iv t a) :=
  ⟨⟨xs, by rw [iv_natAbs]; exact h⟩, by
    cases t
    · rw [iv_f]; exact (decide_eq_false (Int.not_lt.2 (Int.natCast_nonneg _))).symm
    · rw [iv_t]; have := ht rfl; exact (decide_eq_true (by omega)).symm⟩
variable {w : World} {s t : Bool} {p q : Option Addr} {m c n d : Nat} {x y : Int}
end Go.Proofs.YtgodajcnhipleaaGreatDoor

namespace Go.Proofs.YtgodajcnhipleaaGreatDoor
open Go.RowKit Go.Shelf

set_option maxRecDepth 20000 in
set_option maxHeartbeats 4000000 in
theorem rsign04 {p : Option Addr} {m : Nat} {w : World} {z : Int} (s : Bool) (h : ZR w s p m z) :
    Calls Tryz.prog 53 #[.agg #[.bool s, .slice p m m]] w fun e w' => e = .returned (.int .i64 (sgnI z)) ∧ Below w.heap.size w w' := by
  have hz := h.zero
  have hsg := h.sg
  obtain ⟨sg, hs⟩ : ∃ sg, sg = sgnI z := ⟨_, rfl⟩
  rw [← hs]
  by_cases hm : m = 0
  · have hv : sg = 0 := by rw [hs, hz.1 hm]; rfl
    subst hv
    subst hm
    clear h hz hsg hs
    go_enter Tryz.func53, Tryz.ntmps53
    go_wp2_with fail
    go_ret
    exact ⟨rfl, below1 w _⟩
  · have hm0 : ((m : Int) == 0) = false := by simp; omega
    have hz0 : z ≠ 0 := fun e => hm (hz.2 e)
    cases s
    · have hv : sg = 1 := by rw [hs]; unfold sgnI; have := of_decide_eq_false hsg.symm; rw [if_neg this, if_neg hz0]
      subst hv
      clear h hz hsg hs hz0
      go_enter Tryz.func53, Tryz.ntmps53
      go_wp2_with fail
      go_ret
      exact ⟨rfl, below1 w _⟩
    · have hv : sg = -1 := by rw [hs]; unfold sgnI; have := of_decide_eq_true hsg.symm; rw [if_pos this]
      subst hv
      clear h hz hsg hs hz0
      go_enter Tryz.func53, Tryz.ntmps53
      go_wp2_with fail
      go_ret
      exact ⟨rfl, below1 w _⟩
/-- A list in memory that is new since B. -/
def NewAt (B : Nat) (w : World) (p : Option Addr) (m c : Nat) (us : List Nat) : Prop := At w p m c us ∧ (m = 0 ∨ ∃ g, p = some ⟨g, 0, none⟩ ∧ B ≤ g)
theorem NewAt.below {B : Nat} {w w' : World} {p : Option Addr} {m c : Nat} {us : List Nat} (h : NewAt B w p m c us) (hb : Below w.heap.size w w') : NewAt B w' p m c us := ⟨h.1.below hb, h.2⟩
theorem NewAt.mono {B B' : Nat} {w : World} {p : Option Addr} {m c : Nat} {us : List Nat} (h : NewAt B w p m c us) (hB : B' ≤ B) : NewAt B' w p m c us :=
  ⟨h.1, h.2.imp id (fun ⟨g, e, k⟩ => ⟨g, e, Nat.le_trans hB k⟩)⟩
theorem NewAt.set {B : Nat} {w : World} {p : Option Addr} {m c : Nat} {us : List Nat} (h : NewAt B w p m c us) {r : Nat} (hr : r < B) (o : Nat) (v : Value) : NewAt B (w.setCell ⟨r, o, none⟩ v) p m c us := by
  refine ⟨?_, h.2⟩
  rcases h.2 with h0 | ⟨g, rfl, hg⟩
  · subst h0
    obtain rfl : us = [] := List.eq_nil_of_length_eq_zero h.1.len
    exact At.empty _ _ _ h.1.big
  · exact h.1.setOther _ _ _ (by omega)
theorem NewAt.set2 {B b : Nat} {w : World} {p : Option Addr} {m c : Nat} {us : List Nat} (h : NewAt B w p m c us) {r : Nat} (hr : r < B) (hb : b ≤ B) (v0 v1 : Value) : NewAt b ((w.setCell ⟨r, 0, none⟩ v0).setCell ⟨r, 1, none⟩ v1) p m c us :=
  ((h.set hr 0 v0).set hr 1 v1).mono hb
/-- What a pair told of the whole number z holds. -/
def DocZ (z : Int) (s : Bool) (us : List Nat) (er : Int) : Prop :=
  (z.natAbs < LIM ∧ s = decide (z < 0) ∧ Nf B64 us z.natAbs ∧ er = 0) ∨ (LIM ≤ z.natAbs ∧ s = false ∧ us = [] ∧ er = 5)
theorem DocZ.inj {z : Int} {s s' : Bool} {us us' : List Nat} {er er' : Int} (h : DocZ z s us er) (k : DocZ z s' us' er') : s = s' ∧ us = us' ∧ er = er' := by
  rcases h with ⟨h0, rfl, h1, rfl⟩ | ⟨h0, rfl, rfl, rfl⟩ <;> rcases k with ⟨k0, rfl, k1, rfl⟩ | ⟨k0, rfl, rfl, rfl⟩
  · exact ⟨rfl, h1.inj B64_one k1, rfl⟩
  · omega
  · omega
  · exact ⟨rfl, rfl, rfl⟩
end Go.Proofs.YtgodajcnhipleaaGreatDoor

namespace Go.Proofs.YtgodajcnhipleaaGreatDoor
open Go.RowKit Go.Shelf

/-- Is the number in form? -/
def formZ (s : Bool) (xs : List Nat) : Bool := formB xs && !(s && decide (xs = []))
theorem formZ_num {w : World} {p : Option Addr} {m c : Nat} {xs : List Nat} {s : Bool} (h : At w p m c xs) (hf : formZ s xs = true) : Num w p m c xs (valB B64 xs) ∧ (s = true → 0 < valB B64 xs) := by
  unfold formZ at hf
  rw [Bool.and_eq_true] at hf
  obtain ⟨hN, hL⟩ := formB_nf hf.1 h.dig
  rw [h.len] at hL
  refine ⟨⟨h, hN, hL⟩, fun hs => ?_⟩
  have h2 := hf.2
  rw [hs] at h2
  simp at h2
  rcases Nat.eq_zero_or_pos (valB B64 xs) with e | e
  · exact absurd ((hN.zero_iff B64_one).2 e) h2
  · exact e
set_option maxRecDepth 20000 in
set_option maxHeartbeats 4000000 in
theorem numform_f {p : Option Addr} {n c : Nat} {xs : List Nat} {w : World} (s : Bool) (h : At w p n c xs) (hf : formZ s xs = false) :
    Calls Tryz.prog 15 #[ZV s p n c] w fun e w' => e = .returned (.bool false) ∧ Below w.heap.size w w' := by
  have H : Hid (At w p n c xs) := h
  cases hb : formB xs
  · clear h hf
    go_enter Tryz.func15, Tryz.ntmps15
    go_wp2_with fail
    refine (form_false (H.out.alloc _) hb).mono ?_
    rintro e w' ⟨rfl, hw⟩
    obtain rfl := hw.symm
    clear hw hb
    go_wp2_with fail
    go_ret
    exact ⟨rfl, below1 w _⟩
  · have hs : s = true ∧ xs = [] := by
      unfold formZ at hf
      rw [hb] at hf
      simpa using hf
    obtain ⟨rfl, rfl⟩ := hs
    obtain rfl : n = 0 := h.len.symm
    clear h hf
    go_enter Tryz.func15, Tryz.ntmps15
    go_wp2_with fail
    refine (form_true (H.out.alloc _) hb).mono ?_
    rintro e w' ⟨rfl, hw⟩
    obtain rfl := hw.symm
    clear hw hb
    go_wp2_with fail
    go_ret
    exact ⟨rfl, below1 w _⟩
theorem numform_g {p : Option Addr} {n c : Nat} {xs : List Nat} {w : World} (s : Bool) (h : At w p n c xs) (hf : formZ s xs = true) :
    Calls Tryz.prog 15 #[ZV s p n c] w fun e w' => e = .returned (.bool true) ∧ Below w.heap.size w w' := numform_t s (formZ_num h hf).1 (formZ_num h hf).2
end Go.Proofs.YtgodajcnhipleaaGreatDoor

namespace Go.Proofs.YtgodajcnhipleaaGreatDoor
open Go.RowKit Go.Shelf

set_option maxRecDepth 20000 in
set_option maxHeartbeats 4000000 in
/-- ref04.DocForm. -/
theorem docform4 {p : Option Addr} {n c : Nat} {xs : List Nat} {w : World} (s : Bool) (h : At w p n c xs) :
    Calls Tryz.prog 29 #[ZV s p n c] w fun e w' => e = .returned (.bool (formZ s xs)) ∧ Below w.heap.size w w' := by
  have H : Hid (At w p n c xs) := h
  have hl := h.len
  cases hb : formB xs
  · have hz : formZ s xs = false := by unfold formZ; rw [hb]; rfl
    rw [hz]
    clear h hz hl
    go_enter Tryz.func29, Tryz.ntmps29
    go_wp2_with fail
    refine (docform_any (H.out.alloc _)).mono ?_
    rintro e w' ⟨rfl, hw⟩
    rw [hb]
    obtain rfl := hw.symm
    clear hw hb
    go_wp2_with fail
    go_ret
    exact ⟨rfl, below1 w _⟩
  · cases s
    · have hz : formZ false xs = true := by unfold formZ; rw [hb]; rfl
      rw [hz]
      clear h hz hl
      go_enter Tryz.func29, Tryz.ntmps29
      go_wp2_with fail
      refine (docform_any (H.out.alloc _)).mono ?_
      rintro e w' ⟨rfl, hw⟩
      rw [hb]
      obtain rfl := hw.symm
      clear hw hb
      go_wp2_with fail
      go_ret
      exact ⟨rfl, below1 w _⟩
    · by_cases h0 : n = 0
      · subst h0
        have hz : formZ true xs = false := by unfold formZ; rw [hb, List.eq_nil_of_length_eq_zero hl]; rfl
        rw [hz]
        clear h hz hl
        go_enter Tryz.func29, Tryz.ntmps29
        go_wp2_with fail
        refine (docform_any (H.out.alloc _)).mono ?_
        rintro e w' ⟨rfl, hw⟩
        rw [hb]
        obtain rfl := hw.symm
        clear hw hb
        go_wp2_with fail
        go_ret
        exact ⟨rfl, below1 w _⟩
      · have hz : formZ true xs = true := by unfold formZ; rw [hb, decide_eq_false (fun e => h0 (by rw [← hl, e]; rfl))]; rfl
        rw [hz]
        have hn0 : ((n : Int) == 0) = false := by simp; omega
        clear h hz hl
        go_enter Tryz.func29, Tryz.ntmps29
        go_wp2_with fail
        refine (docform_any (H.out.alloc _)).mono ?_
        rintro e w' ⟨rfl, hw⟩
        rw [hb]
        obtain rfl := hw.symm
        clear hw hb
        go_wp2_with fail
        go_ret
        exact ⟨rfl, below1 w _⟩
theorem formZ_len {s : Bool} {xs : List Nat} (h : formZ s xs = true) : xs.length ≤ 8192 := by
  unfold formZ at h
  rw [Bool.and_eq_true] at h
  exact ((formB_iff xs).1 h.1).1
/-- ref04.From. -/
theorem rfrom04 {p : Option Addr} {n c : Nat} {xs : List Nat} {w : World} (s : Bool) (h : At w p n c xs) (hn : n ≤ 17592186044416) :
    Calls Tryz.prog 54 #[ZV s p n c] w fun e w' => ∃ s' p' m', e = .returned (.agg #[.bool s', .slice p' m' m']) ∧ ZR w' s' p' m' (iv s (valB B64 xs)) ∧ m' ≤ 2 * n ∧ Below w.heap.size w w' := by
  refine (from04 s h hn).mono ?_
  rintro e w1 ⟨p1, m1, z1, rfl, hA, hN, hl, hb⟩
  refine ⟨_, p1, m1, rfl, ⟨⟨z1, hA, by rw [iv_natAbs]; exact hN⟩, ?_⟩, hl, hb⟩
  rw [iv_lt]
  have : decide (0 < m1) = decide (0 < valB B64 xs) := by
    refine decide_eq_decide.2 ?_
    have h1 := hN.zero_iff B32_one
    have h2 := hA.len
    constructor
    · intro h0
      rcases Nat.eq_zero_or_pos (valB B64 xs) with e | e
      · have := h1.2 e; rw [this] at h2; simp at h2; omega
      · exact e
    · intro h0
      rcases Nat.eq_zero_or_pos m1 with e | e
      · have := h1.1 (List.eq_nil_of_length_eq_zero (by omega)); omega
      · exact e
  rw [this]
def OneZ (r : Int → Int) (sx : Bool) (xs : List Nat) (s : Bool) (us : List Nat) (er : Int) : Prop :=
  (formZ sx xs = false ∧ s = false ∧ us = [] ∧ er = 2) ∨ (formZ sx xs = true ∧ DocZ (r (iv sx (valB B64 xs))) s us er)
def TwoZ (r : Int → Int → Int) (sx : Bool) (xs : List Nat) (sy : Bool) (ys : List Nat) (s : Bool) (us : List Nat) (er : Int) : Prop :=
  ((formZ sx xs && formZ sy ys) = false ∧ s = false ∧ us = [] ∧ er = 2) ∨ ((formZ sx xs && formZ sy ys) = true ∧ DocZ (r (iv sx (valB B64 xs)) (iv sy (valB B64 ys))) s us er)
theorem OneZ.inj {r : Int → Int} {sx : Bool} {xs : List Nat} {s s' : Bool} {us us' : List Nat} {er er' : Int} (h : OneZ r sx xs s us er) (k : OneZ r sx xs s' us' er') : s = s' ∧ us = us' ∧ er = er' := by
  rcases h with ⟨h0, rfl, rfl, rfl⟩ | ⟨h0, h1⟩ <;> rcases k with ⟨k0, rfl, rfl, rfl⟩ | ⟨k0, k1⟩
  · exact ⟨rfl, rfl, rfl⟩
  · rw [h0] at k0; cases k0
  · rw [h0] at k0; cases k0
  · exact h1.inj k1
theorem TwoZ.inj {r : Int → Int → Int} {sx sy : Bool} {xs ys : List Nat} {s s' : Bool} {us us' : List Nat} {er er' : Int} (h : TwoZ r sx xs sy ys s us er) (k : TwoZ r sx xs sy ys s' us' er') : s = s' ∧ us = us' ∧ er = er' := by
  rcases h with ⟨h0, rfl, rfl, rfl⟩ | ⟨h0, h1⟩ <;> rcases k with ⟨k0, rfl, rfl, rfl⟩ | ⟨k0, k1⟩
  · exact ⟨rfl, rfl, rfl⟩
  · rw [h0] at k0; cases k0
  · rw [h0] at k0; cases k0
  · exact h1.inj k1
end Go.Proofs.YtgodajcnhipleaaGreatDoor

namespace Go.Proofs.YtgodajcnhipleaaGreatDoor
open Go.RowKit Go.Shelf

/-- A struct of six cells in memory. -/
structure B6q (W : World) (g : Nat) (v0 v1 v2 v3 v4 v5 : Value) : Prop where
  c0 : W.cell? ⟨g, 0, none⟩ = some v0
  c1 : W.cell? ⟨g, 1, none⟩ = some v1
  c2 : W.cell? ⟨g, 2, none⟩ = some v2
  c3 : W.cell? ⟨g, 3, none⟩ = some v3
  c4 : W.cell? ⟨g, 4, none⟩ = some v4
  c5 : W.cell? ⟨g, 5, none⟩ = some v5
  f0 : W.frozen? ⟨g, 0, none⟩ = false
  f1 : W.frozen? ⟨g, 1, none⟩ = false
  f2 : W.frozen? ⟨g, 2, none⟩ = false
  f3 : W.frozen? ⟨g, 3, none⟩ = false
  f4 : W.frozen? ⟨g, 4, none⟩ = false
  f5 : W.frozen? ⟨g, 5, none⟩ = false
theorem B6q.below {W W' : World} {g : Nat} {v0 v1 v2 v3 v4 v5 : Value} (h : B6q W g v0 v1 v2 v3 v4 v5) (hb : Below W.heap.size W W') : B6q W' g v0 v1 v2 v3 v4 v5 := by
  have hl : g < W.heap.size := World.block_lt_of_cell? W _ h.c0
  exact ⟨(hb.cell (p := ⟨g, 0, none⟩) hl).trans h.c0, (hb.cell (p := ⟨g, 1, none⟩) hl).trans h.c1, (hb.cell (p := ⟨g, 2, none⟩) hl).trans h.c2, (hb.cell (p := ⟨g, 3, none⟩) hl).trans h.c3, (hb.cell (p := ⟨g, 4, none⟩) hl).trans h.c4, (hb.cell (p := ⟨g, 5, none⟩) hl).trans h.c5, (hb.frozen (p := ⟨g, 0, none⟩) hl).trans h.f0, (hb.frozen (p := ⟨g, 1, none⟩) hl).trans h.f1, (hb.frozen (p := ⟨g, 2, none⟩) hl).trans h.f2, (hb.frozen (p := ⟨g, 3, none⟩) hl).trans h.f3, (hb.frozen (p := ⟨g, 4, none⟩) hl).trans h.f4, (hb.frozen (p := ⟨g, 5, none⟩) hl).trans h.f5⟩
theorem B6q.new (w : World) (ty : TypeId) (v0 v1 v2 v3 v4 v5 : Value) : B6q (w.alloc (.cells #[v0, v1, v2, v3, v4, v5] ty)) w.heap.size v0 v1 v2 v3 v4 v5 := ⟨by go_simp, by go_simp, by go_simp, by go_simp, by go_simp, by go_simp, by go_simp, by go_simp, by go_simp, by go_simp, by go_simp, by go_simp⟩
set_option maxRecDepth 20000 in
set_option maxHeartbeats 4000000 in
/-- law04's twin. -/
theorem twin4 {p : Option Addr} {m c : Nat} {xs : List Nat} {w : World} (s : Bool) (h : At w p m c xs) (hm : m ≤ 17592186044416) :
    Calls Tryz.prog 28 #[ZV s p m c] w fun e w' => ∃ p', e = .returned (ZV s p' m m) ∧ At w' p' m m xs ∧ Below w.heap.size w w' := by
  have H : Hid (At w p m c xs) := h
  have HM : Hid (m ≤ 17592186044416) := hm
  clear h hm
  go_enter Tryz.func28, Tryz.ntmps28
  go_wp2_with fail
  obtain ⟨W0, hW0⟩ : ∃ W0, W0 = ((w.alloc (.cells #[.bool s, .slice p m c] 28)).alloc (.cells #[.bool false, .slice none 0 0] 28)) := ⟨_, rfl⟩
  have Xx : Hid (Box W0 (w.heap.size) (.bool s) (.slice p m c)) := by rw [hW0]; exact ⟨by go_simp, by go_simp, by go_simp, by go_simp⟩
  have Xr : Hid (Box W0 (w.heap.size + 1) (.bool false) (.slice none 0 0)) := by rw [hW0]; exact ⟨by go_simp, by go_simp, by go_simp, by go_simp⟩
  have hb0 : Below w.heap.size w W0 := by rw [hW0]; exact below2 w _ _
  rw [← hW0]
  clear hW0
  have hbw : Below w.heap.size w w := Below.refl _ _
  obtain ⟨gr, hgr⟩ : ∃ g, g = w.heap.size + 1 := ⟨_, rfl⟩
  have HGr : Hid (w.heap.size ≤ gr) := by rw [hgr]; show _ ≤ _; omega
  rw [← hgr] at Xr
  try rw [← hgr]
  obtain ⟨gx, hgx⟩ : ∃ g, g = w.heap.size := ⟨_, rfl⟩
  have HGx : Hid (w.heap.size ≤ gx) := by rw [hgx]; show _ ≤ _; omega
  rw [← hgx] at Xx
  try rw [← hgx]
  have HGD : Hid (gx ≠ gr ∧ gr ≠ gx) := by rw [hgx, hgr]; exact ⟨by omega, by omega⟩
  clear hgx hgr
  replace H : Hid _ := H.out.below hb0
  replace hbw := Below.on hbw hb0
  clear hb0
  obtain ⟨W1, hW1⟩ : ∃ W1, W1 = W0.drew := ⟨_, rfl⟩
  have hbd : Below W0.heap.size W0 W1 := by rw [hW1]; exact bDrew1 (Below.refl _ _)
  replace Xx : Hid _ := Xx.out.below hbd
  replace Xr : Hid _ := Xr.out.below hbd
  replace H : Hid _ := H.out.below hbd
  replace hbw := Below.on hbw hbd
  clear hbd
  have HJ : Hid ((fun W' : World => W'.cell? ⟨gx, 0, none⟩ = some (.bool s) ∧ W'.cell? ⟨gx, 1, none⟩ = some (.slice p m c)) W1) := ⟨Xx.out.c0, Xx.out.c1⟩
  refine wp_region_J (fun W' => W'.cell? ⟨gx, 0, none⟩ = some (.bool s) ∧ W'.cell? ⟨gx, 1, none⟩ = some (.slice p m c)) (by kernel_rfl) ?_
  rw [← hW1]
  clear hW1
  refine wpJ_take (i := 0) (v := ?v1x0) rfl (by kernel_rfl) (by kernel_rfl) (by kernel_rfl) (fun _ _ _ h => h) (by kernel_rfl) ?hy1x0 HJ.out ?rest1x0
  case hy1x0 => (intro W' hJ; obtain ⟨j0, j1⟩ := hJ; go_simp; first | done | with_reducible rfl)
  refine wpJ_take (i := 1) (v := ?v2x1) rfl (by kernel_rfl) (by kernel_rfl) (by kernel_rfl) (fun _ _ _ h => h) (by kernel_rfl) ?hy2x1 HJ.out ?rest2x1
  case hy2x1 => (intro W' hJ; obtain ⟨j0, j1⟩ := hJ; go_simp; first | done | with_reducible rfl)
  refine wpJ_take (i := 2) (v := ?v3x2) rfl (by kernel_rfl) (by kernel_rfl) (by kernel_rfl) (fun _ _ _ h => h) (by kernel_rfl) ?hy3x2 HJ.out ?rest3x2
  case hy3x2 => (intro W' hJ; obtain ⟨j0, j1⟩ := hJ; go_simp; first | done | with_reducible rfl)
  refine wpJ_take (i := 3) (v := ?v4x3) rfl (by kernel_rfl) (by kernel_rfl) (by kernel_rfl) (fun _ _ _ h => h) (by kernel_rfl) ?hy4x3 HJ.out ?rest4x3
  case hy4x3 => (intro W' hJ; obtain ⟨j0, j1⟩ := hJ; go_simp; first | done | with_reducible rfl)
  refine wpJ_one (i := 4) (by kernel_rfl) rfl (by kernel_rfl) (fun KJ hK => ?_)
  go_simp
  refine (twin_any H.out (by have := HM.out; omega)).mono ?_
  rintro e w2 ⟨g2, rfl, hg2, hblk2, hb2⟩
  have HRL : Hid (gr < g2) := Nat.lt_of_lt_of_le Xr.out.lt hg2
  have hA2 := hblk2.at_ H.out.dig H.out.len (by have := HM.out; unfold maxLen; omega)
  replace Xx : Hid _ := Xx.out.below hb2
  replace Xr : Hid _ := Xr.out.below hb2
  replace H : Hid _ := H.out.below hb2
  replace hbw := Below.on hbw hb2
  clear hb2
  have A2 : Hid (At w2 (some ⟨g2, 0, none⟩) m m xs) := hA2
  clear hg2 hblk2 hA2
  clear HJ
  have HJ : Hid ((fun W' : World => W'.cell? ⟨gx, 0, none⟩ = some (.bool s) ∧ W'.cell? ⟨gx, 1, none⟩ = some (.slice p m c)) w2) := ⟨Xx.out.c0, Xx.out.c1⟩
  refine hK _ _ HJ.out ?_
  clear hK
  refine wpJ_take (i := 5) (v := ?v5x5) rfl (by kernel_rfl) (by kernel_rfl) (by kernel_rfl) (fun _ _ _ h => h) (by kernel_rfl) ?hy5x5 HJ.out ?rest5x5
  case hy5x5 => (intro W' hJ; obtain ⟨j0, j1⟩ := hJ; go_simp; first | done | with_reducible rfl)
  obtain ⟨cr0, cr1, fr0, fr1⟩ := Xr.out
  have hner : gr < w2.heap.size := World.block_lt_of_cell? w2 _ cr0
  obtain ⟨cx0, cx1, fx0, fx1⟩ := Xx.out
  have hnex : gx < w2.heap.size := World.block_lt_of_cell? w2 _ cx0
  obtain ⟨hgd0, hgd1⟩ := HGD.out
  refine wpJ_one (i := 6) (by kernel_rfl) rfl (by kernel_rfl) (fun KJ hK => ?_)
  go_simp
  have HJ2 : Hid ((fun W' : World => W'.cell? ⟨gx, 0, none⟩ = some (.bool s) ∧ W'.cell? ⟨gx, 1, none⟩ = some (.slice p m c)) ((w2.setCell ⟨gr, 0, none⟩ (.bool s)).setCell ⟨gr, 1, none⟩ (.slice (some ⟨g2, 0, none⟩) m m))) := ⟨by go_simp, by go_simp⟩
  refine hK _ _ HJ2.out ?_
  clear hK HJ
  have HJ := HJ2
  clear HJ2
  refine wpJ_done (by kernel_rfl) ?_ _
  clear HJ
  go_wp2_with fail
  refine bodyPost_ret (v := ZV s (some ⟨g2, 0, none⟩) m m) (by rw [results_cell1 rfl]; go_simp) rfl ⟨_, rfl, ?_, ?_⟩
  · have := HRL.out
    exact (A2.out.setOther _ _ _ (by omega)).setOther _ _ _ (by omega)
  · exact bSet (bSet hbw _ _ _ HGr.out) _ _ _ HGr.out
set_option maxRecDepth 20000 in
set_option maxHeartbeats 4000000 in
/-- law04's told, of what tells the same. -/
theorem told4 {p q : Option Addr} {n m c d : Nat} {xs : List Nat} {w : World} (s : Bool) (er : Int) (h : At w p n c xs) (k : At w q m d xs) :
    Calls Tryz.prog 36 #[ZV s p n c, .int .i64 er, ZV s q m d, .int .i64 er] w fun e w' => e = .returned (.bool true) ∧ Below w.heap.size w w' := by
  have H : Hid (At w p n c xs) := h
  have K : Hid (At w q m d xs) := k
  have hee : (er == er) = true := by simp
  clear h k
  go_enter Tryz.func36, Tryz.ntmps36
  go_wp2_with fail
  obtain ⟨W0, hW0⟩ : ∃ W0, W0 = ((w.alloc (.cells #[.bool s, .slice p n c] 28)).alloc (.cells #[.bool s, .slice q m d] 28)) := ⟨_, rfl⟩
  have Xx : Hid (Box W0 (w.heap.size) (.bool s) (.slice p n c)) := by rw [hW0]; exact ⟨by go_simp, by go_simp, by go_simp, by go_simp⟩
  have Xy : Hid (Box W0 (w.heap.size + 1) (.bool s) (.slice q m d)) := by rw [hW0]; exact ⟨by go_simp, by go_simp, by go_simp, by go_simp⟩
  have hb0 : Below w.heap.size w W0 := by rw [hW0]; exact below2 w _ _
  rw [← hW0]
  clear hW0
  have hbw : Below w.heap.size w w := Below.refl _ _
  obtain ⟨gy, hgy⟩ : ∃ g, g = w.heap.size + 1 := ⟨_, rfl⟩
  have HGy : Hid (w.heap.size ≤ gy) := by rw [hgy]; show _ ≤ _; omega
  rw [← hgy] at Xy
  try rw [← hgy]
  obtain ⟨gx, hgx⟩ : ∃ g, g = w.heap.size := ⟨_, rfl⟩
  have HGx : Hid (w.heap.size ≤ gx) := by rw [hgx]; show _ ≤ _; omega
  rw [← hgx] at Xx
  try rw [← hgx]
  have HGD : Hid (gx ≠ gy ∧ gy ≠ gx) := by rw [hgx, hgy]; exact ⟨by omega, by omega⟩
  clear hgx hgy
  replace H : Hid _ := H.out.below hb0
  replace K : Hid _ := K.out.below hb0
  replace hbw := Below.on hbw hb0
  clear hb0
  refine (nsame_t s H.out K.out).mono ?_
  rintro e v1 ⟨rfl, hb1⟩
  replace Xx : Hid _ := Xx.out.below hb1
  replace Xy : Hid _ := Xy.out.below hb1
  replace H : Hid _ := H.out.below hb1
  replace K : Hid _ := K.out.below hb1
  replace hbw := Below.on hbw hb1
  clear hb1
  go_wp2_with fail
  go_ret
  exact ⟨rfl, hbw⟩
end Go.Proofs.YtgodajcnhipleaaGreatDoor

namespace Go.Proofs.YtgodajcnhipleaaGreatDoor
open Go.RowKit Go.Shelf

/-- Calls of that kind play well. -/
def Play4 (T : World → Prop) (k : Int) : Prop := ∀ (px py : Option Addr) (nx cx ny cy : Nat) (xx yy : List Nat) (w : World) (sx sy : Bool) (nn : Int), T w → At w px nx cx xx → At w py ny cy yy → nx ≤ 17592186044416 → ny ≤ 17592186044416 → -9223372036854775808 ≤ nn → nn ≤ 9223372036854775807 →
    Calls Tryz.prog 16 #[.agg #[.int .i64 k, .bool sx, .slice px nx cx, .bool sy, .slice py ny cy, .int .i64 nn]] w fun e w' => e = .returned (.bool true) ∧ Below w.heap.size w w'

set_option maxRecDepth 20000 in
set_option maxHeartbeats 8000000 in
/-- gnomonlaw04.all, of kinds each of which plays well. -/
theorem all4 {P : Option Addr} {N C : Nat} {its : List Op6} {w : World} {lo hi : Int} {T : World → Prop} (h : Scr4 w P N C its) (hT : T w) (hTb : ∀ w w', T w → Below w.heap.size w w' → T w')
    (hp : ∀ k, lo ≤ k → k ≤ hi → Play4 T k) :
    Calls Tryz.prog 8 #[.slice P N C, .int .i64 lo, .int .i64 hi] w fun e w' => e = .returned (.bool true) ∧ Below w.heap.size w w' := by
  have H : Hid (Scr4 w P N C its) := h
  have HP : Hid (∀ k, lo ≤ k → k ≤ hi → Play4 T k) := hp
  have HT : Hid (T w ∧ ∀ w w', T w → Below w.heap.size w w' → T w') := ⟨hT, hTb⟩
  have HLN : Hid (its.length = N) := h.len
  have cap := h.cap; have big := h.big
  unfold maxLen at big
  clear h hp hT hTb
  go_enter Tryz.func8, Tryz.ntmps8
  go_wp2_with fail
  go_loopg [11] N (fun gg iv wr => ∃ k : Nat, k + gg = N ∧ iv = .int .i64 k ∧ Below w.heap.size w wr)
  case atStart => exact ⟨0, by omega, rfl, Below.refl _ _⟩
  case round =>
    obtain ⟨k, hkg, rfl, hbw⟩ := hrel
    cases gk with
    | zero =>
      obtain rfl : k = N := by omega
      have hnk : ¬ (k : Int) < (k : Int) := by omega
      go_wp2_with fail
      go_ret
      exact ⟨rfl, hbw⟩
    | succ gg =>
      have hki : k < its.length := by rw [HLN.out]; omega
      have HR := H.out.below hbw
      obtain ⟨g, off, rfl, hc⟩ := HR.cells.resolve_left (by omega)
      obtain ⟨e0, e1, e2, e3, e4, e5⟩ := hc k hki
      have HAT : Hid (At wr its[k].px its[k].nx its[k].cx its[k].xx ∧ At wr its[k].py its[k].ny its[k].cy its[k].yy ∧ its[k].nx ≤ 17592186044416 ∧ its[k].ny ≤ 17592186044416 ∧ -9223372036854775808 ≤ its[k].nn ∧ its[k].nn ≤ 9223372036854775807) := HR.ats its[k] (List.getElem_mem hki)
      have HBW : Hid (Below w.heap.size w wr) := hbw
      have hkk : (k : Int) < (N : Int) := by omega
      have hlt : g < wr.heap.size := World.block_lt_of_cell? wr _ e0
      clear hc HR hbw
      generalize its[k].k = kd at *
      generalize its[k].sx = sx at *
      generalize its[k].px = px at *
      generalize its[k].nx = nx at *
      generalize its[k].cx = cx at *
      generalize its[k].xx = xx at *
      generalize its[k].sy = sy at *
      generalize its[k].py = py at *
      generalize its[k].ny = ny at *
      generalize its[k].cy = cy at *
      generalize its[k].yy = yy at *
      generalize its[k].nn = nn at *
      have hb0 : Below wr.heap.size wr (wr.alloc (.cells #[.int .i64 kd, .bool sx, .slice px nx cx, .bool sy, .slice py ny cy, .int .i64 nn] 38)) := below1 wr _
      have HAO : Hid (At (wr.alloc (.cells #[.int .i64 kd, .bool sx, .slice px nx cx, .bool sy, .slice py ny cy, .int .i64 nn] 38)) px nx cx xx ∧ At (wr.alloc (.cells #[.int .i64 kd, .bool sx, .slice px nx cx, .bool sy, .slice py ny cy, .int .i64 nn] 38)) py ny cy yy ∧ nx ≤ 17592186044416 ∧ ny ≤ 17592186044416 ∧ -9223372036854775808 ≤ nn ∧ nn ≤ 9223372036854775807) := ⟨HAT.out.1.below hb0, HAT.out.2.1.below hb0, HAT.out.2.2⟩
      have HBO : Hid (Below w.heap.size w (wr.alloc (.cells #[.int .i64 kd, .bool sx, .slice px nx cx, .bool sy, .slice py ny cy, .int .i64 nn] 38))) := Below.on HBW.out hb0
      clear hb0 HAT HBW
      by_cases hlo : lo ≤ kd
      · have hlo2 : ¬ kd < lo := by omega
        by_cases hhi : kd ≤ hi
        · have hhi2 : ¬ hi < kd := by omega
          have HPK : Hid (Play4 T kd) := HP.out kd hlo hhi
          go_wp2_with fail
          refine (HPK.out px py nx cx ny cy xx yy _ sx sy nn (HT.out.2 _ _ HT.out.1 HBO.out) HAO.out.1 HAO.out.2.1 HAO.out.2.2.1 HAO.out.2.2.2.1 HAO.out.2.2.2.2.1 HAO.out.2.2.2.2.2).mono ?_
          rintro e wz ⟨rfl, hbq⟩
          have hbz := Below.on HBO.out hbq
          clear hbq e0 e1 e2 e3 e4 e5
          go_wp2_with fail
          go_roundg gg
          case measure => omega
          case rel => exact ⟨k + 1, by omega, by go_num, hbz⟩
        · have hhi2 : hi < kd := by omega
          go_wp2_with fail
          go_roundg gg
          case measure => omega
          case rel => exact ⟨k + 1, by omega, by go_num, HBO.out⟩
      · have hlo2 : kd < lo := by omega
        go_wp2_with fail
        go_roundg gg
        case measure => omega
        case rel => exact ⟨k + 1, by omega, by go_num, HBO.out⟩
end Go.Proofs.YtgodajcnhipleaaGreatDoor

namespace Go.Proofs.YtgodajcnhipleaaGreatDoor
open Go.RowKit Go.Shelf

/-- num.Form, of any number. -/
theorem numform4 {p : Option Addr} {n c : Nat} {xs : List Nat} {w : World} (s : Bool) (h : At w p n c xs) :
    Calls Tryz.prog 15 #[ZV s p n c] w fun e w' => e = .returned (.bool (formZ s xs)) ∧ Below w.heap.size w w' := by
  cases hf : formZ s xs
  · exact numform_f s h hf
  · exact numform_g s h hf
set_option maxRecDepth 20000 in
set_option maxHeartbeats 4000000 in
/-- num.Sign. -/
theorem sign4 {p : Option Addr} {m c : Nat} {xs : List Nat} {a : Nat} {w : World} (s : Bool) (h : At w p m c xs) (hm : m ≤ 17592186044416) (hav : valB B64 xs = a) :
    Calls Tryz.prog 14 #[ZV s p m c] w fun e w' => e = .returned (.int .i64 (sgnI (iv s a))) ∧ Below w.heap.size w w' := by
  have H : Hid (At w p m c xs) := h
  have HAV : Hid (valB B64 xs = a) := hav
  obtain ⟨bb, hbb⟩ : ∃ bb, bb = bitsN a := ⟨_, rfl⟩
  have HBB : Hid (bb = bitsN a) := hbb
  clear h hbb hav
  by_cases ha : a = 0
  · have hb0 : bb = 0 := by rw [HBB.out]; exact (bits_zero a).2 ha
    have hr : sgnI (iv s a) = 0 := by rw [ha]; cases s <;> rfl
    rw [hr]
    clear hr ha
    go_enter Tryz.func14, Tryz.ntmps14
    go_wp2_with fail
    refine (bits_any (H.out.alloc _) (by omega)).mono ?_
    rintro e w1 ⟨rfl, hw⟩
    rw [HAV.out, ← HBB.out, hb0]
    have hbw : Below w.heap.size w w1 := by rw [hw]; exact below1 w _
    clear hw hb0
    go_wp2_with fail
    go_ret
    exact ⟨rfl, hbw⟩
  · have hb0 : ((bb : Int) == 0) = false := by have := mt (bits_zero a).1 ha; rw [← HBB.out] at this; simpa using this
    obtain ⟨sg, hsg⟩ : ∃ sg, sg = sgnI (iv s a) := ⟨_, rfl⟩
    rw [← hsg]
    have HSG : Hid (sg = if s = true then -1 else 1) := by
      show _ = _
      rw [hsg]; unfold sgnI
      cases s
      · rw [iv_f, if_neg (by omega), if_neg (by omega), if_neg (by simp)]
      · rw [iv_t, if_pos (by omega), if_pos rfl]
    clear hsg ha
    cases s
    · go_enter Tryz.func14, Tryz.ntmps14
      go_wp2_with fail
      refine (bits_any (H.out.alloc _) (by omega)).mono ?_
      rintro e w1 ⟨rfl, hw⟩
      rw [HAV.out, ← HBB.out]
      have hbw : Below w.heap.size w w1 := by rw [hw]; exact below1 w _
      have B0 : Box (w.alloc (.cells #[.bool false, .slice p m c] 28)) w.heap.size (.bool false) (.slice p m c) := ⟨by go_simp, by go_simp, by go_simp, by go_simp⟩
      obtain ⟨c0, c1, f0, f1⟩ := B0
      rw [← hw] at c0 c1 f0 f1
      clear hw
      go_wp2_with fail
      go_ret
      exact ⟨by rw [HSG.out]; rfl, hbw⟩
    · go_enter Tryz.func14, Tryz.ntmps14
      go_wp2_with fail
      refine (bits_any (H.out.alloc _) (by omega)).mono ?_
      rintro e w1 ⟨rfl, hw⟩
      rw [HAV.out, ← HBB.out]
      have hbw : Below w.heap.size w w1 := by rw [hw]; exact below1 w _
      have B0 : Box (w.alloc (.cells #[.bool true, .slice p m c] 28)) w.heap.size (.bool true) (.slice p m c) := ⟨by go_simp, by go_simp, by go_simp, by go_simp⟩
      obtain ⟨c0, c1, f0, f1⟩ := B0
      rw [← hw] at c0 c1 f0 f1
      clear hw
      go_wp2_with fail
      go_ret
      exact ⟨by rw [HSG.out]; rfl, hbw⟩
set_option maxRecDepth 20000 in
set_option maxHeartbeats 4000000 in
/-- ref04.DocSign. -/
theorem docsign4 {p : Option Addr} {m c : Nat} {xs : List Nat} {w : World} (s : Bool) (h : At w p m c xs) (hm : m ≤ 17592186044416) :
    Calls Tryz.prog 30 #[ZV s p m c] w fun e w' => e = .returned (.int .i64 (sgnI (iv s (valB B64 xs)))) ∧ Below w.heap.size w w' := by
  have H : Hid (At w p m c xs) := h
  have HM : Hid (m ≤ 17592186044416) := hm
  clear h hm
  obtain ⟨sv, hsv⟩ : ∃ sv, sv = sgnI (iv s (valB B64 xs)) := ⟨_, rfl⟩
  rw [← hsv]
  have HSV : Hid (sv = sgnI (iv s (valB B64 xs))) := hsv
  clear hsv
  go_enter Tryz.func30, Tryz.ntmps30
  go_wp2_with fail
  obtain ⟨W0, hW0⟩ : ∃ W0, W0 = (w.alloc (.cells #[.bool s, .slice p m c] 28)) := ⟨_, rfl⟩
  have Xx : Hid (Box W0 (w.heap.size) (.bool s) (.slice p m c)) := by rw [hW0]; exact ⟨by go_simp, by go_simp, by go_simp, by go_simp⟩
  have hb0 : Below w.heap.size w W0 := by rw [hW0]; exact below1 w _
  rw [← hW0]
  clear hW0
  have hbw : Below w.heap.size w w := Below.refl _ _
  obtain ⟨gx, hgx⟩ : ∃ g, g = w.heap.size := ⟨_, rfl⟩
  have HGx : Hid (w.heap.size ≤ gx) := by rw [hgx]; show _ ≤ _; omega
  rw [← hgx] at Xx
  try rw [← hgx]
  clear hgx
  replace H : Hid _ := H.out.below hb0
  replace hbw := Below.on hbw hb0
  clear hb0
  refine (rfrom04 s H.out HM.out).mono ?_
  rintro e v2 ⟨s2, p2, m2, rfl, hz2, hl2, hb2⟩
  replace Xx : Hid _ := Xx.out.below hb2
  replace H : Hid _ := H.out.below hb2
  replace hbw := Below.on hbw hb2
  clear hb2
  have Z2 : Hid (ZR v2 s2 p2 m2 (iv s (valB B64 xs))) := hz2
  clear hz2 hl2
  go_wp2_with fail
  refine (rsign04 s2 Z2.out).mono ?_
  rintro e v3 ⟨rfl, hb3⟩
  rw [← HSV.out]
  replace Xx : Hid _ := Xx.out.below hb3
  replace H : Hid _ := H.out.below hb3
  replace Z2 : Hid _ := Z2.out.below hb3
  replace hbw := Below.on hbw hb3
  clear hb3
  go_wp2_with fail
  go_ret
  exact ⟨rfl, hbw⟩
set_option maxRecDepth 20000 in
set_option maxHeartbeats 8000000 in
theorem plays4_2 {px py : Option Addr} {nx cx ny cy : Nat} {xx yy : List Nat} {w : World} (sx sy : Bool) (nn : Int) (h : At w px nx cx xx) (k : At w py ny cy yy) (hx : nx ≤ 17592186044416) (hy : ny ≤ 17592186044416) (hn0 : -9223372036854775808 ≤ nn) (hn1 : nn ≤ 9223372036854775807) :
    Calls Tryz.prog 16 #[.agg #[.int .i64 2, .bool sx, .slice px nx cx, .bool sy, .slice py ny cy, .int .i64 nn]] w fun e w' => e = .returned (.bool true) ∧ Below w.heap.size w w' := by
  have H : Hid (At w px nx cx xx) := h
  have K : Hid (At w py ny cy yy) := k
  have HB : Hid (nx ≤ 17592186044416 ∧ ny ≤ 17592186044416 ∧ -9223372036854775808 ≤ nn ∧ nn ≤ 9223372036854775807) := ⟨hx, hy, hn0, hn1⟩
  clear h k hx hy hn0 hn1
  go_enter Tryz.func16, Tryz.ntmps16
  go_wp2_with fail
  obtain ⟨W0, hW0⟩ : ∃ W0, W0 = (w.alloc (.cells #[.int .i64 2, .bool sx, .slice px nx cx, .bool sy, .slice py ny cy, .int .i64 nn] 38)) := ⟨_, rfl⟩
  have Xo : Hid (B6q W0 (w.heap.size) (.int .i64 2) (.bool sx) (.slice px nx cx) (.bool sy) (.slice py ny cy) (.int .i64 nn)) := by rw [hW0]; exact ⟨by go_simp, by go_simp, by go_simp, by go_simp, by go_simp, by go_simp, by go_simp, by go_simp, by go_simp, by go_simp, by go_simp, by go_simp⟩
  have hb0 : Below w.heap.size w W0 := by rw [hW0]; exact below1 w _
  rw [← hW0]
  clear hW0
  have hbw : Below w.heap.size w w := Below.refl _ _
  obtain ⟨go, hgo⟩ : ∃ g, g = w.heap.size := ⟨_, rfl⟩
  have HGo : Hid (w.heap.size ≤ go) := by rw [hgo]; show _ ≤ _; omega
  rw [← hgo] at Xo
  try rw [← hgo]
  clear hgo
  replace H : Hid _ := H.out.below hb0
  replace K : Hid _ := K.out.below hb0
  replace hbw := Below.on hbw hb0
  clear hb0
  obtain ⟨fb, hfb⟩ : ∃ fb, fb = formZ sx xx := ⟨_, rfl⟩
  have HFB : Hid (fb = formZ sx xx) := hfb
  have hbb : (fb == fb) = true := by simp
  clear hfb
  obtain ⟨W1, hW1⟩ : ∃ W1, W1 = W0.drew := ⟨_, rfl⟩
  have hbd : Below W0.heap.size W0 W1 := by rw [hW1]; exact bDrew1 (Below.refl _ _)
  replace Xo : Hid _ := Xo.out.below hbd
  replace H : Hid _ := H.out.below hbd
  replace K : Hid _ := K.out.below hbd
  replace hbw := Below.on hbw hbd
  clear hbd
  have HJ : Hid ((fun W' : World => W'.cell? ⟨go, 1, none⟩ = some (.bool sx) ∧ W'.cell? ⟨go, 2, none⟩ = some (.slice px nx cx)) W1) := ⟨Xo.out.c1, Xo.out.c2⟩
  refine wp_region_J (fun W' => W'.cell? ⟨go, 1, none⟩ = some (.bool sx) ∧ W'.cell? ⟨go, 2, none⟩ = some (.slice px nx cx)) (by kernel_rfl) ?_
  rw [← hW1]
  clear hW1
  refine wpJ_take (i := 0) (v := ?v1x0) rfl (by kernel_rfl) (by kernel_rfl) (by kernel_rfl) (fun _ _ _ h => h) (by kernel_rfl) ?hy1x0 HJ.out ?rest1x0
  case hy1x0 => (intro W' hJ; obtain ⟨j0, j1⟩ := hJ; go_simp; first | done | with_reducible rfl)
  refine wpJ_take (i := 1) (v := ?v2x1) rfl (by kernel_rfl) (by kernel_rfl) (by kernel_rfl) (fun _ _ _ h => h) (by kernel_rfl) ?hy2x1 HJ.out ?rest2x1
  case hy2x1 => (intro W' hJ; obtain ⟨j0, j1⟩ := hJ; go_simp; first | done | with_reducible rfl)
  refine wpJ_take (i := 4) (v := ?v3x4) rfl (by kernel_rfl) (by kernel_rfl) (by kernel_rfl) (fun _ _ _ h => h) (by kernel_rfl) ?hy3x4 HJ.out ?rest3x4
  case hy3x4 => (intro W' hJ; obtain ⟨j0, j1⟩ := hJ; go_simp; first | done | with_reducible rfl)
  refine wpJ_take (i := 5) (v := ?v4x5) rfl (by kernel_rfl) (by kernel_rfl) (by kernel_rfl) (fun _ _ _ h => h) (by kernel_rfl) ?hy4x5 HJ.out ?rest4x5
  case hy4x5 => (intro W' hJ; obtain ⟨j0, j1⟩ := hJ; go_simp; first | done | with_reducible rfl)
  refine wpJ_one (i := 2) (by kernel_rfl) rfl (by kernel_rfl) (fun KJ hK => ?_)
  go_simp
  refine (twin4 sx H.out HB.out.1).mono ?_
  rintro e v2 ⟨p2, rfl, hA2, hb2⟩
  replace Xo : Hid _ := Xo.out.below hb2
  replace H : Hid _ := H.out.below hb2
  replace K : Hid _ := K.out.below hb2
  replace hbw := Below.on hbw hb2
  clear hb2
  have T2 : Hid (At v2 p2 nx nx xx) := hA2
  clear hA2
  clear HJ
  have HJ : Hid ((fun W' : World => W'.cell? ⟨go, 1, none⟩ = some (.bool sx) ∧ W'.cell? ⟨go, 2, none⟩ = some (.slice px nx cx)) v2) := ⟨Xo.out.c1, Xo.out.c2⟩
  refine hK _ _ HJ.out ?_
  clear hK
  refine wpJ_one (i := 3) (by kernel_rfl) rfl (by kernel_rfl) (fun KJ hK => ?_)
  go_simp
  refine (numform4 sx T2.out).mono ?_
  rintro e v3 ⟨rfl, hb3⟩
  rw [← HFB.out]
  replace Xo : Hid _ := Xo.out.below hb3
  replace H : Hid _ := H.out.below hb3
  replace K : Hid _ := K.out.below hb3
  replace T2 : Hid _ := T2.out.below hb3
  replace hbw := Below.on hbw hb3
  clear hb3
  clear HJ
  have HJ : Hid ((fun W' : World => W'.cell? ⟨go, 1, none⟩ = some (.bool sx) ∧ W'.cell? ⟨go, 2, none⟩ = some (.slice px nx cx)) v3) := ⟨Xo.out.c1, Xo.out.c2⟩
  refine hK _ _ HJ.out ?_
  clear hK
  refine wpJ_one (i := 6) (by kernel_rfl) rfl (by kernel_rfl) (fun KJ hK => ?_)
  go_simp
  refine (docform4 sx H.out).mono ?_
  rintro e v4 ⟨rfl, hb4⟩
  rw [← HFB.out]
  replace Xo : Hid _ := Xo.out.below hb4
  replace H : Hid _ := H.out.below hb4
  replace K : Hid _ := K.out.below hb4
  replace T2 : Hid _ := T2.out.below hb4
  replace hbw := Below.on hbw hb4
  clear hb4
  clear HJ
  have HJ : Hid ((fun W' : World => W'.cell? ⟨go, 1, none⟩ = some (.bool sx) ∧ W'.cell? ⟨go, 2, none⟩ = some (.slice px nx cx)) v4) := ⟨Xo.out.c1, Xo.out.c2⟩
  refine hK _ _ HJ.out ?_
  clear hK
  refine wpJ_take (i := 7) (v := ?v5x7) rfl (by kernel_rfl) (by kernel_rfl) (by kernel_rfl) (fun _ _ _ h => h) (by kernel_rfl) ?hy5x7 HJ.out ?rest5x7
  case hy5x7 => (intro W' hJ; obtain ⟨j0, j1⟩ := hJ; go_simp; first | done | with_reducible rfl)
  refine wpJ_take (i := 8) (v := ?v6x8) rfl (by kernel_rfl) (by kernel_rfl) (by kernel_rfl) (fun _ _ _ h => h) (by kernel_rfl) ?hy6x8 HJ.out ?rest6x8
  case hy6x8 => (intro W' hJ; obtain ⟨j0, j1⟩ := hJ; go_simp; first | done | with_reducible rfl)
  refine wpJ_done (by kernel_rfl) ?_ _
  clear HJ
  go_wp2_with fail
  go_ret
  exact ⟨rfl, hbw⟩
set_option maxRecDepth 20000 in
set_option maxHeartbeats 8000000 in
theorem plays4_3 {px py : Option Addr} {nx cx ny cy : Nat} {xx yy : List Nat} {w : World} (sx sy : Bool) (nn : Int) (h : At w px nx cx xx) (k : At w py ny cy yy) (hx : nx ≤ 17592186044416) (hy : ny ≤ 17592186044416) (hn0 : -9223372036854775808 ≤ nn) (hn1 : nn ≤ 9223372036854775807) :
    Calls Tryz.prog 16 #[.agg #[.int .i64 3, .bool sx, .slice px nx cx, .bool sy, .slice py ny cy, .int .i64 nn]] w fun e w' => e = .returned (.bool true) ∧ Below w.heap.size w w' := by
  have H : Hid (At w px nx cx xx) := h
  have K : Hid (At w py ny cy yy) := k
  have HB : Hid (nx ≤ 17592186044416 ∧ ny ≤ 17592186044416 ∧ -9223372036854775808 ≤ nn ∧ nn ≤ 9223372036854775807) := ⟨hx, hy, hn0, hn1⟩
  clear h k hx hy hn0 hn1
  go_enter Tryz.func16, Tryz.ntmps16
  go_wp2_with fail
  obtain ⟨W0, hW0⟩ : ∃ W0, W0 = (w.alloc (.cells #[.int .i64 3, .bool sx, .slice px nx cx, .bool sy, .slice py ny cy, .int .i64 nn] 38)) := ⟨_, rfl⟩
  have Xo : Hid (B6q W0 (w.heap.size) (.int .i64 3) (.bool sx) (.slice px nx cx) (.bool sy) (.slice py ny cy) (.int .i64 nn)) := by rw [hW0]; exact ⟨by go_simp, by go_simp, by go_simp, by go_simp, by go_simp, by go_simp, by go_simp, by go_simp, by go_simp, by go_simp, by go_simp, by go_simp⟩
  have hb0 : Below w.heap.size w W0 := by rw [hW0]; exact below1 w _
  rw [← hW0]
  clear hW0
  have hbw : Below w.heap.size w w := Below.refl _ _
  obtain ⟨go, hgo⟩ : ∃ g, g = w.heap.size := ⟨_, rfl⟩
  have HGo : Hid (w.heap.size ≤ go) := by rw [hgo]; show _ ≤ _; omega
  rw [← hgo] at Xo
  try rw [← hgo]
  clear hgo
  replace H : Hid _ := H.out.below hb0
  replace K : Hid _ := K.out.below hb0
  replace hbw := Below.on hbw hb0
  clear hb0
  obtain ⟨sv, hsv⟩ : ∃ sv, sv = sgnI (iv sx (valB B64 xx)) := ⟨_, rfl⟩
  have HSV : Hid (sv = sgnI (iv sx (valB B64 xx))) := hsv
  have hbb : (sv == sv) = true := by simp
  clear hsv
  obtain ⟨W1, hW1⟩ : ∃ W1, W1 = W0.drew := ⟨_, rfl⟩
  have hbd : Below W0.heap.size W0 W1 := by rw [hW1]; exact bDrew1 (Below.refl _ _)
  replace Xo : Hid _ := Xo.out.below hbd
  replace H : Hid _ := H.out.below hbd
  replace K : Hid _ := K.out.below hbd
  replace hbw := Below.on hbw hbd
  clear hbd
  have HJ : Hid ((fun W' : World => W'.cell? ⟨go, 1, none⟩ = some (.bool sx) ∧ W'.cell? ⟨go, 2, none⟩ = some (.slice px nx cx)) W1) := ⟨Xo.out.c1, Xo.out.c2⟩
  refine wp_region_J (fun W' => W'.cell? ⟨go, 1, none⟩ = some (.bool sx) ∧ W'.cell? ⟨go, 2, none⟩ = some (.slice px nx cx)) (by kernel_rfl) ?_
  rw [← hW1]
  clear hW1
  refine wpJ_take (i := 0) (v := ?v7x0) rfl (by kernel_rfl) (by kernel_rfl) (by kernel_rfl) (fun _ _ _ h => h) (by kernel_rfl) ?hy7x0 HJ.out ?rest7x0
  case hy7x0 => (intro W' hJ; obtain ⟨j0, j1⟩ := hJ; go_simp; first | done | with_reducible rfl)
  refine wpJ_take (i := 1) (v := ?v8x1) rfl (by kernel_rfl) (by kernel_rfl) (by kernel_rfl) (fun _ _ _ h => h) (by kernel_rfl) ?hy8x1 HJ.out ?rest8x1
  case hy8x1 => (intro W' hJ; obtain ⟨j0, j1⟩ := hJ; go_simp; first | done | with_reducible rfl)
  refine wpJ_take (i := 4) (v := ?v9x4) rfl (by kernel_rfl) (by kernel_rfl) (by kernel_rfl) (fun _ _ _ h => h) (by kernel_rfl) ?hy9x4 HJ.out ?rest9x4
  case hy9x4 => (intro W' hJ; obtain ⟨j0, j1⟩ := hJ; go_simp; first | done | with_reducible rfl)
  refine wpJ_take (i := 5) (v := ?v10x5) rfl (by kernel_rfl) (by kernel_rfl) (by kernel_rfl) (fun _ _ _ h => h) (by kernel_rfl) ?hy10x5 HJ.out ?rest10x5
  case hy10x5 => (intro W' hJ; obtain ⟨j0, j1⟩ := hJ; go_simp; first | done | with_reducible rfl)
  refine wpJ_one (i := 2) (by kernel_rfl) rfl (by kernel_rfl) (fun KJ hK => ?_)
  go_simp
  refine (twin4 sx H.out HB.out.1).mono ?_
  rintro e v2 ⟨p2, rfl, hA2, hb2⟩
  replace Xo : Hid _ := Xo.out.below hb2
  replace H : Hid _ := H.out.below hb2
  replace K : Hid _ := K.out.below hb2
  replace hbw := Below.on hbw hb2
  clear hb2
  have T2 : Hid (At v2 p2 nx nx xx) := hA2
  clear hA2
  clear HJ
  have HJ : Hid ((fun W' : World => W'.cell? ⟨go, 1, none⟩ = some (.bool sx) ∧ W'.cell? ⟨go, 2, none⟩ = some (.slice px nx cx)) v2) := ⟨Xo.out.c1, Xo.out.c2⟩
  refine hK _ _ HJ.out ?_
  clear hK
  refine wpJ_one (i := 3) (by kernel_rfl) rfl (by kernel_rfl) (fun KJ hK => ?_)
  go_simp
  refine (sign4 sx T2.out HB.out.1 rfl).mono ?_
  rintro e v3 ⟨rfl, hb3⟩
  rw [← HSV.out]
  replace Xo : Hid _ := Xo.out.below hb3
  replace H : Hid _ := H.out.below hb3
  replace K : Hid _ := K.out.below hb3
  replace T2 : Hid _ := T2.out.below hb3
  replace hbw := Below.on hbw hb3
  clear hb3
  clear HJ
  have HJ : Hid ((fun W' : World => W'.cell? ⟨go, 1, none⟩ = some (.bool sx) ∧ W'.cell? ⟨go, 2, none⟩ = some (.slice px nx cx)) v3) := ⟨Xo.out.c1, Xo.out.c2⟩
  refine hK _ _ HJ.out ?_
  clear hK
  refine wpJ_one (i := 6) (by kernel_rfl) rfl (by kernel_rfl) (fun KJ hK => ?_)
  go_simp
  refine (docsign4 sx H.out HB.out.1).mono ?_
  rintro e v4 ⟨rfl, hb4⟩
  rw [← HSV.out]
  replace Xo : Hid _ := Xo.out.below hb4
  replace H : Hid _ := H.out.below hb4
  replace K : Hid _ := K.out.below hb4
  replace T2 : Hid _ := T2.out.below hb4
  replace hbw := Below.on hbw hb4
  clear hb4
  clear HJ
  have HJ : Hid ((fun W' : World => W'.cell? ⟨go, 1, none⟩ = some (.bool sx) ∧ W'.cell? ⟨go, 2, none⟩ = some (.slice px nx cx)) v4) := ⟨Xo.out.c1, Xo.out.c2⟩
  refine hK _ _ HJ.out ?_
  clear hK
  refine wpJ_take (i := 7) (v := ?v11x7) rfl (by kernel_rfl) (by kernel_rfl) (by kernel_rfl) (fun _ _ _ h => h) (by kernel_rfl) ?hy11x7 HJ.out ?rest11x7
  case hy11x7 => (intro W' hJ; obtain ⟨j0, j1⟩ := hJ; go_simp; first | done | with_reducible rfl)
  refine wpJ_take (i := 8) (v := ?v12x8) rfl (by kernel_rfl) (by kernel_rfl) (by kernel_rfl) (fun _ _ _ h => h) (by kernel_rfl) ?hy12x8 HJ.out ?rest12x8
  case hy12x8 => (intro W' hJ; obtain ⟨j0, j1⟩ := hJ; go_simp; first | done | with_reducible rfl)
  refine wpJ_done (by kernel_rfl) ?_ _
  clear HJ
  go_wp2_with fail
  go_ret
  exact ⟨rfl, hbw⟩
end Go.Proofs.YtgodajcnhipleaaGreatDoor

namespace Go.Proofs.YtgodajcnhipleaaGreatDoor
open Go.RowKit Go.Shelf

theorem Own.newAt {B : Nat} {w : World} {p : Option Addr} {m : Nat} {zs : List Nat} (h : Own B w p m zs) (hm : m ≤ 8192) : NewAt B w p m m zs :=
  ⟨h.at_ hm, h.mem.imp id fun ⟨g, e, hg, _⟩ => ⟨g, e, hg⟩⟩
end Go.Proofs.YtgodajcnhipleaaGreatDoor

namespace Go.Proofs.YtgodajcnhipleaaGreatDoor
open Go.RowKit

variable {P : Program} {md : Region.Mode} {ops : Array Oper} {Q : Exit → Act → World → Prop} {J : World → Prop}

/-- Two operations are ready: either may go first. -/
theorem wpJ_two {i k : Nat} {oi ok : Oper} {fuel : Nat} {listed : Array Bool} {a : Act} {w : World} (hr : Region.ready md ops listed = [i, k]) (hi : ops[i]? = some oi) (hk : ops[k]? = some ok)
    (hwi : Region.wanted oi (yielded ops a.tmps) = true) (hwk : Region.wanted ok (yielded ops a.tmps) = true)
    (h1 : ∀ K : Act → World → Prop, (∀ a' w', J w' → wpJ P md ops Q J fuel (listed.setIfInBounds i true) a' w' → K a' w') → Oper.wp P oi a w K Q)
    (h2 : ∀ K : Act → World → Prop, (∀ a' w', J w' → wpJ P md ops Q J fuel (listed.setIfInBounds k true) a' w' → K a' w') → Oper.wp P ok a w K Q) : wpJ P md ops Q J (fuel + 1) listed a w := by
  refine ⟨fun h => (by rw [hr] at h; cases h), fun j hj => ?_⟩
  rw [hr] at hj
  rcases List.mem_cons.1 hj with rfl | hj
  · unfold wpOp
    simp only [hi, hwi, if_true]
    exact .inl (h1 _ fun a' w' h1 h2 => ⟨h1, h2⟩)
  · obtain rfl : j = k := by simpa using hj
    unfold wpOp
    simp only [hk, hwk, if_true]
    exact .inl (h2 _ fun a' w' h1 h2 => ⟨h1, h2⟩)
end Go.Proofs.YtgodajcnhipleaaGreatDoor

namespace Go.Proofs.YtgodajcnhipleaaGreatDoor
open Go.RowKit Go.Shelf

theorem B6q.lt {w : World} {g : Nat} {a b c d e f : Value} (h : B6q w g a b c d e f) : g < w.heap.size := World.block_lt_of_cell? w _ h.c0
/-- The list lies in no cell of the block g. -/
def Off (p : Option Addr) (m g : Nat) : Prop := m = 0 ∨ ∃ g' off, p = some ⟨g', off, none⟩ ∧ g' ≠ g
theorem At.off_new {w : World} {p : Option Addr} {m c : Nat} {us : List Nat} (h : At w p m c us) : Off p m w.heap.size := by
  rcases Nat.eq_zero_or_pos m with e | e
  · exact .inl e
  · rcases h.cells with h0 | ⟨g, off, rfl, hc⟩
    · exact .inl h0
    · have := World.block_lt_of_cell? w _ (hc 0 e)
      exact .inr ⟨g, off, rfl, Nat.ne_of_lt this⟩
theorem NewAt.off {B : Nat} {w : World} {p : Option Addr} {m c : Nat} {us : List Nat} (h : NewAt B w p m c us) {g : Nat} (hg : g < B) : Off p m g :=
  h.2.imp id fun ⟨g', e, k⟩ => ⟨g', 0, e, by omega⟩
theorem At.setOff {w : World} {p : Option Addr} {m c : Nat} {us : List Nat} (h : At w p m c us) {g : Nat} (hf : Off p m g) (o : Nat) (v : Value) : At (w.setCell ⟨g, o, none⟩ v) p m c us := by
  rcases hf with h0 | ⟨g', off, rfl, hg⟩
  · subst h0
    obtain rfl : us = [] := List.eq_nil_of_length_eq_zero h.len
    exact At.empty _ _ _ h.big
  · exact h.setOther _ _ _ hg

end Go.Proofs.YtgodajcnhipleaaGreatDoor

namespace Go.Proofs.YtgodajcnhipleaaGreatDoor
open Go.RowKit Go.Shelf

set_option maxRecDepth 20000 in
set_option maxHeartbeats 4000000 in
/-- ref04.DocOf. -/
theorem docof_new (z : Int) (w : World) (h0 : -9223372036854775808 ≤ z) (h1 : z ≤ 9223372036854775807) :
    Calls Tryz.prog 21 #[.int .i64 z] w fun e w' => ∃ s g k N us, e = .returned (ZV s (some ⟨g, 0, none⟩) k N) ∧ s = decide (z < 0) ∧ w.heap.size ≤ g ∧ At w' (some ⟨g, 0, none⟩) k N us ∧ Nf B64 us z.natAbs ∧ Below w.heap.size w w' := by
  have HZ : Hid (-9223372036854775808 ≤ z ∧ z ≤ 9223372036854775807) := ⟨h0, h1⟩
  clear h0 h1
  go_enter Tryz.func21, Tryz.ntmps21
  go_wp2_with fail
  obtain ⟨W0, hW0⟩ : ∃ W0, W0 = (w.alloc (.cells #[.bool false, .slice none 0 0] 28)) := ⟨_, rfl⟩
  have Xr : Hid (Box W0 (w.heap.size) (.bool false) (.slice none 0 0)) := by rw [hW0]; exact ⟨by go_simp, by go_simp, by go_simp, by go_simp⟩
  have hb0 : Below w.heap.size w W0 := by rw [hW0]; exact below1 w _
  rw [← hW0]
  clear hW0
  have hbw : Below w.heap.size w w := Below.refl _ _
  obtain ⟨gr, hgr⟩ : ∃ g, g = w.heap.size := ⟨_, rfl⟩
  have HGr : Hid (w.heap.size ≤ gr) := by rw [hgr]; show _ ≤ _; omega
  rw [← hgr] at Xr
  try rw [← hgr]
  clear hgr
  replace hbw := Below.on hbw hb0
  clear hb0
  refine (rof_any z W0 HZ.out.1 HZ.out.2).mono ?_
  rintro e w1 ⟨g1, m1, z1, rfl, hA1, hN1, hl1, hb1⟩
  replace Xr : Hid _ := Xr.out.below hb1
  replace hbw := Below.on hbw hb1
  clear hb1
  have A1 : Hid (At32 w1 (some ⟨g1, 0, none⟩) m1 m1 z1) := hA1
  have N1 : Hid (Nf B32 z1 z.natAbs ∧ m1 ≤ 3) := ⟨hN1, hl1⟩
  clear hA1 hN1 hl1
  obtain ⟨s, hs⟩ : ∃ s, s = decide (z < 0) := ⟨_, rfl⟩
  rw [← hs]
  have HS : Hid (s = decide (z < 0)) := hs
  clear hs
  go_wp2_with fail
  have HRL : Hid (gr < w1.heap.size) := Xr.out.lt
  have h0 : s = true → 0 < m1 := by intro e; rw [HS.out] at e; have hz := of_decide_eq_true e; rcases Nat.eq_zero_or_pos m1 with e2 | e2; (have := (N1.out.1.zero_iff B32_one).1 (List.eq_nil_of_length_eq_zero (by rw [A1.out.len]; exact e2)); omega); exact e2
  refine (to04_any s A1.out N1.out.1 (by have := N1.out.2; omega) h0).mono ?_
  rintro e w2 ⟨g2, k2, N2, us, rfl, hA2, hn2, hg2, hb2⟩
  clear h0
  replace Xr : Hid _ := Xr.out.below hb2
  replace A1 : Hid _ := A1.out.below hb2
  replace hbw := Below.on hbw hb2
  clear hb2
  have A2 : Hid (At w2 (some ⟨g2, 0, none⟩) k2 N2 us) := hA2
  have H2 : Hid (Nf B64 us z.natAbs ∧ gr < g2) := ⟨hn2, Nat.lt_of_lt_of_le HRL.out hg2⟩
  clear hA2 hn2 hg2
  obtain ⟨cr0, cr1, fr0, fr1⟩ := Xr.out
  have hner : gr < w2.heap.size := World.block_lt_of_cell? w2 _ cr0
  go_wp2_with fail
  refine bodyPost_ret (v := ZV s (some ⟨g2, 0, none⟩) k2 N2) (by rw [results_cell1 rfl]; go_simp) rfl ⟨s, g2, k2, N2, us, rfl, HS.out, Nat.le_of_lt (Nat.lt_of_le_of_lt HGr.out H2.out.2), ?_, H2.out.1, ?_⟩
  · have := H2.out.2
    exact (A2.out.setOther _ _ _ (by omega)).setOther _ _ _ (by omega)
  · exact bSet (bSet hbw _ _ _ HGr.out) _ _ _ HGr.out
theorem docz_int {z : Int} {us : List Nat} (h0 : -9223372036854775808 ≤ z) (h1 : z ≤ 9223372036854775807) (hn : Nf B64 us z.natAbs) : DocZ z (decide (z < 0)) us 0 := by
  refine .inl ⟨?_, rfl, hn, rfl⟩
  have h2 := (hn.len_le B64_one (k := 1)).2 (by rw [Nat.pow_one, B64_eq]; omega)
  exact hn.lim.1 (by omega)
set_option maxRecDepth 20000 in
set_option maxHeartbeats 8000000 in
theorem doc4_1 {px py : Option Addr} {nx cx ny cy : Nat} {xx yy : List Nat} {w : World} (sx sy : Bool) (nn : Int) (h : At w px nx cx xx) (k : At w py ny cy yy) (hx : nx ≤ 17592186044416) (hy : ny ≤ 17592186044416) (hn0 : -9223372036854775808 ≤ nn) (hn1 : nn ≤ 9223372036854775807) :
    Calls Tryz.prog 34 #[.agg #[.int .i64 1, .bool sx, .slice px nx cx, .bool sy, .slice py ny cy, .int .i64 nn]] w fun e w' => ∃ s' p' m' c' us er, e = .returned (.tuple #[ZV s' p' m' c', .int .i64 er]) ∧ NewAt w.heap.size w' p' m' c' us ∧ DocZ nn s' us er ∧ Below w.heap.size w w' := by
  have H : Hid (At w px nx cx xx) := h
  have K : Hid (At w py ny cy yy) := k
  have HB : Hid (nx ≤ 17592186044416 ∧ ny ≤ 17592186044416 ∧ -9223372036854775808 ≤ nn ∧ nn ≤ 9223372036854775807) := ⟨hx, hy, hn0, hn1⟩
  clear h k hx hy hn0 hn1
  go_enter Tryz.func34, Tryz.ntmps34
  go_wp2_with fail
  obtain ⟨W0, hW0⟩ : ∃ W0, W0 = ((w.alloc (.cells #[.int .i64 1, .bool sx, .slice px nx cx, .bool sy, .slice py ny cy, .int .i64 nn] 38)).alloc (.cells #[.bool false, .slice none 0 0] 28)) := ⟨_, rfl⟩
  have Xo : Hid (B6q W0 (w.heap.size) (.int .i64 1) (.bool sx) (.slice px nx cx) (.bool sy) (.slice py ny cy) (.int .i64 nn)) := by rw [hW0]; exact ⟨by go_simp, by go_simp, by go_simp, by go_simp, by go_simp, by go_simp, by go_simp, by go_simp, by go_simp, by go_simp, by go_simp, by go_simp⟩
  have Xr : Hid (Box W0 (w.heap.size + 1) (.bool false) (.slice none 0 0)) := by rw [hW0]; exact ⟨by go_simp, by go_simp, by go_simp, by go_simp⟩
  have hb0 : Below w.heap.size w W0 := by rw [hW0]; exact below2 w _ _
  rw [← hW0]
  clear hW0
  have hbw : Below w.heap.size w w := Below.refl _ _
  obtain ⟨gr, hgr⟩ : ∃ g, g = w.heap.size + 1 := ⟨_, rfl⟩
  have HGr : Hid (w.heap.size ≤ gr) := by rw [hgr]; show _ ≤ _; omega
  rw [← hgr] at Xr
  try rw [← hgr]
  obtain ⟨go, hgo⟩ : ∃ g, g = w.heap.size := ⟨_, rfl⟩
  have HGo : Hid (w.heap.size ≤ go) := by rw [hgo]; show _ ≤ _; omega
  rw [← hgo] at Xo
  try rw [← hgo]
  have HGD : Hid (go ≠ gr ∧ gr ≠ go) := by rw [hgo, hgr]; exact ⟨by omega, by omega⟩
  clear hgo hgr
  replace H : Hid _ := H.out.below hb0
  replace K : Hid _ := K.out.below hb0
  replace hbw := Below.on hbw hb0
  clear hb0
  refine (docof_new nn _ HB.out.2.2.1 HB.out.2.2.2).mono ?_
  rintro e v4 ⟨s4, g4, m4, c4, u4, rfl, hs4, hg4, hA4, hn4, hb4⟩
  have HRL0 : Hid (gr < W0.heap.size ∧ w.heap.size ≤ W0.heap.size) := ⟨Xr.out.lt, hbw.size⟩
  replace Xo : Hid _ := Xo.out.below hb4
  replace Xr : Hid _ := Xr.out.below hb4
  replace H : Hid _ := H.out.below hb4
  replace K : Hid _ := K.out.below hb4
  replace hbw := Below.on hbw hb4
  clear hb4
  have A4 : Hid (NewAt W0.heap.size v4 (some ⟨g4, 0, none⟩) m4 c4 u4) := ⟨hA4, .inr ⟨g4, rfl, hg4⟩⟩
  have D4 : Hid (DocZ nn s4 u4 0) := by rw [hs4]; exact docz_int HB.out.2.2.1 HB.out.2.2.2 hn4
  clear hs4 hg4 hA4 hn4
  obtain ⟨cr0, cr1, fr0, fr1⟩ := Xr.out
  have hner : gr < v4.heap.size := World.block_lt_of_cell? v4 _ cr0
  go_wp2_with fail
  refine bodyPost_ret (v := .tuple #[ZV s4 (some ⟨g4, 0, none⟩) m4 c4, .int .i64 0]) (by rw [results_cell_tmp rfl]; go_simp) rfl ⟨s4, some ⟨g4, 0, none⟩, m4, c4, u4, 0, rfl, ?_, D4.out, ?_⟩
  · exact A4.out.set2 HRL0.out.1 HRL0.out.2 _ _
  · exact bSet (bSet hbw _ _ _ HGr.out) _ _ _ HGr.out
set_option maxRecDepth 20000 in
set_option maxHeartbeats 8000000 in
theorem number4_1 {px py : Option Addr} {nx cx ny cy : Nat} {xx yy : List Nat} {w : World} (sx sy : Bool) (nn : Int) (h : At w px nx cx xx) (k : At w py ny cy yy) (hx : nx ≤ 17592186044416) (hy : ny ≤ 17592186044416) (hn0 : -9223372036854775808 ≤ nn) (hn1 : nn ≤ 9223372036854775807) :
    Calls Tryz.prog 35 #[.agg #[.int .i64 1, .bool sx, .slice px nx cx, .bool sy, .slice py ny cy, .int .i64 nn]] w fun e w' => ∃ s' p' m' c' us er, e = .returned (.tuple #[ZV s' p' m' c', .int .i64 er]) ∧ NewAt w.heap.size w' p' m' c' us ∧ DocZ nn s' us er ∧ Below w.heap.size w w' := by
  have H : Hid (At w px nx cx xx) := h
  have K : Hid (At w py ny cy yy) := k
  have HB : Hid (nx ≤ 17592186044416 ∧ ny ≤ 17592186044416 ∧ -9223372036854775808 ≤ nn ∧ nn ≤ 9223372036854775807) := ⟨hx, hy, hn0, hn1⟩
  clear h k hx hy hn0 hn1
  go_enter Tryz.func35, Tryz.ntmps35
  go_wp2_with fail
  obtain ⟨W0, hW0⟩ : ∃ W0, W0 = (((w.alloc (.cells #[.int .i64 1, .bool sx, .slice px nx cx, .bool sy, .slice py ny cy, .int .i64 nn] 38)).alloc (.cells #[.bool false, .slice none 0 0] 28)).alloc (.cells #[.bool false, .slice none 0 0] 28)) := ⟨_, rfl⟩
  have Xo : Hid (B6q W0 (w.heap.size) (.int .i64 1) (.bool sx) (.slice px nx cx) (.bool sy) (.slice py ny cy) (.int .i64 nn)) := by rw [hW0]; exact ⟨by go_simp, by go_simp, by go_simp, by go_simp, by go_simp, by go_simp, by go_simp, by go_simp, by go_simp, by go_simp, by go_simp, by go_simp⟩
  have Xr : Hid (Box W0 (w.heap.size + 1) (.bool false) (.slice none 0 0)) := by rw [hW0]; exact ⟨by go_simp, by go_simp, by go_simp, by go_simp⟩
  have Xx : Hid (Box W0 (w.heap.size + 1 + 1) (.bool false) (.slice none 0 0)) := by rw [hW0]; exact ⟨by go_simp, by go_simp, by go_simp, by go_simp⟩
  have hb0 : Below w.heap.size w W0 := by rw [hW0]; exact below3 w _ _ _
  rw [← hW0]
  clear hW0
  have hbw : Below w.heap.size w w := Below.refl _ _
  obtain ⟨gx, hgx⟩ : ∃ g, g = w.heap.size + 1 + 1 := ⟨_, rfl⟩
  have HGx : Hid (w.heap.size ≤ gx) := by rw [hgx]; show _ ≤ _; omega
  rw [← hgx] at Xx
  try rw [← hgx]
  obtain ⟨gr, hgr⟩ : ∃ g, g = w.heap.size + 1 := ⟨_, rfl⟩
  have HGr : Hid (w.heap.size ≤ gr) := by rw [hgr]; show _ ≤ _; omega
  rw [← hgr] at Xr
  try rw [← hgr]
  obtain ⟨go, hgo⟩ : ∃ g, g = w.heap.size := ⟨_, rfl⟩
  have HGo : Hid (w.heap.size ≤ go) := by rw [hgo]; show _ ≤ _; omega
  rw [← hgo] at Xo
  try rw [← hgo]
  have HGD : Hid (go ≠ gr ∧ go ≠ gx ∧ gr ≠ go ∧ gr ≠ gx ∧ gx ≠ go ∧ gx ≠ gr) := by rw [hgo, hgr, hgx]; exact ⟨by omega, by omega, by omega, by omega, by omega, by omega⟩
  clear hgo hgr hgx
  replace H : Hid _ := H.out.below hb0
  replace K : Hid _ := K.out.below hb0
  replace hbw := Below.on hbw hb0
  clear hb0
  refine (of_full nn _ HB.out.2.2.1 HB.out.2.2.2).mono ?_
  rintro e v4 ⟨v, rfl, hv4, hb4⟩
  obtain ⟨p4, m4, u4, rfl, ho4, hn4, hm4⟩ := hv4
  obtain ⟨s4, hs4⟩ : ∃ s, s = decide (nn < 0) := ⟨_, rfl⟩
  rw [← hs4]
  have HRL0 : Hid (gr < W0.heap.size ∧ w.heap.size ≤ W0.heap.size ∧ gx < W0.heap.size) := ⟨Xr.out.lt, hbw.size, Xx.out.lt⟩
  replace Xo : Hid _ := Xo.out.below hb4
  replace Xr : Hid _ := Xr.out.below hb4
  replace Xx : Hid _ := Xx.out.below hb4
  replace H : Hid _ := H.out.below hb4
  replace K : Hid _ := K.out.below hb4
  replace hbw := Below.on hbw hb4
  clear hb4
  have A4 : Hid (NewAt W0.heap.size v4 p4 m4 m4 u4) := ho4.newAt hm4
  have D4 : Hid (DocZ nn s4 u4 0) := by rw [hs4]; exact docz_int HB.out.2.2.1 HB.out.2.2.2 hn4
  clear hs4 ho4 hn4 hm4
  obtain ⟨hgd0, hgd1, hgd2, hgd3, hgd4, hgd5⟩ := HGD.out
  obtain ⟨cr0, cr1, fr0, fr1⟩ := Xr.out
  have hner : gr < v4.heap.size := World.block_lt_of_cell? v4 _ cr0
  obtain ⟨cx0, cx1, fx0, fx1⟩ := Xx.out
  have hnex : gx < v4.heap.size := World.block_lt_of_cell? v4 _ cx0
  go_wp2_with fail
  refine bodyPost_ret (v := .tuple #[ZV s4 p4 m4 m4, .int .i64 0]) (by rw [results_cell_tmp rfl]; go_simp) rfl ⟨s4, p4, m4, m4, u4, 0, rfl, ?_, D4.out, ?_⟩
  · exact (A4.out.set2 HRL0.out.2.2 (Nat.le_refl _) _ _).set2 HRL0.out.1 HRL0.out.2.1 _ _
  · exact bSet (bSet (bSet (bSet hbw _ _ _ HGx.out) _ _ _ HGx.out) _ _ _ HGr.out) _ _ _ HGr.out
end Go.Proofs.YtgodajcnhipleaaGreatDoor

