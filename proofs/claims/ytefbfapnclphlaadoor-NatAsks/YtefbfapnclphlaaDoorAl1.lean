import Derived.Test.YtefbfapnclphlaaDoorAk4
import Derived.Test.YtefbfapnclphlaaDoorAk5
import Derived.Test.YtefbfapnclphlaaDoorAk6
import Derived.Test.YtefbfapnclphlaaDoorAk7
import Derived.Test.YtefbfapnclphlaaDoorNf5
namespace Go.Proofs.YtefbfapnclphlaaDoor
open Go.RowKit Go.Shelf

set_option maxRecDepth 20000 in
set_option maxHeartbeats 4000000 in
theorem all47 {P : Option Addr} {N C : Nat} {its : List Op5} {w : World} (h : Scr w P N C its) (hT : Tab w) :
    Calls Tryd.prog 9 #[.slice P N C, .int .i64 4, .int .i64 7] w fun e w' => e = .returned (.bool true) ∧ Below w.heap.size w w' := by
  have H : Hid (Scr w P N C its) := h
  have HT : Hid (Tab w) := hT
  have HLN : Hid (its.length = N) := h.len
  have cap := h.cap; have big := h.big
  unfold maxLen at big
  clear h hT
  go_enter Tryd.func9, Tryd.ntmps9
  go_wp2_with fail
  go_loopg [11] N (fun gk iv wr => ∃ k : Nat, k + gk = N ∧ iv = .int .i64 k ∧ Below w.heap.size w wr)
  case atStart => exact ⟨0, by omega, rfl, Below.refl _ _⟩
  case round =>
    obtain ⟨k, hkg, rfl, hbw⟩ := hrel
    cases gk with
    | zero =>
      obtain rfl : k = N := by omega
      have hnk : ¬ (k : Int) < (k : Int) := by omega
      go_wp2_with fail
      go_ret
      exact ⟨rfl, hbw⟩
    | succ gg =>
      have hki : k < its.length := by rw [HLN.out]; omega
      have HR := H.out.below hbw
      have HTR : Hid (Tab wr) := HT.out.below hbw
      obtain ⟨g, off, rfl, hc⟩ := HR.cells.resolve_left (by omega)
      obtain ⟨e0, e1, e2, e3, e4⟩ := hc k hki
      obtain ⟨hA, hB, hna, hnb, hwd, hn1, hn2⟩ := HR.ats its[k] (List.getElem_mem hki)
      have HA : Hid (At wr its[k].pa its[k].na its[k].ca its[k].xa) := hA
      have HB : Hid (At wr its[k].pb its[k].nb its[k].cb its[k].xb) := hB
      have HNN : Hid (its[k].nn ≤ 9223372036854775807) := hn2
      have hkk : (k : Int) < (N : Int) := by omega
      have hlt : g < wr.heap.size := World.block_lt_of_cell? wr _ e0
      clear hc HR hA hB hn1 hn2 hwd
      generalize its[k].k = kd at *
      generalize its[k].pa = pa at *
      generalize its[k].na = na at *
      generalize its[k].ca = ca at *
      generalize its[k].xa = xa at *
      generalize its[k].pb = pb at *
      generalize its[k].nb = nb at *
      generalize its[k].cb = cb at *
      generalize its[k].xb = xb at *
      generalize its[k].nn = nn at *
      generalize its[k].wd = wd at *
      by_cases h4 : kd = 4
      · subst h4
        go_wp2_with fail
        refine (plays_4 (HA.out.alloc _) (HB.out.alloc _) hna hnb nn HNN.out wd (HTR.out.below (below1 wr _))).mono ?_
        rintro e wz ⟨rfl, hbz⟩
        have hbw2 := Below.on hbw (Below.on (below1 wr _) hbz)
        clear hbw hbz HA HB e0 e1 e2 e3 e4
        go_wp2_with fail
        go_roundg gg
        case measure => omega
        case rel => exact ⟨k + 1, by omega, by go_num, hbw2⟩
      by_cases h5 : kd = 5
      · subst h5
        go_wp2_with fail
        refine (plays_5 (HA.out.alloc _) (HB.out.alloc _) hna hnb nn HNN.out wd (HTR.out.below (below1 wr _))).mono ?_
        rintro e wz ⟨rfl, hbz⟩
        have hbw2 := Below.on hbw (Below.on (below1 wr _) hbz)
        clear hbw hbz HA HB e0 e1 e2 e3 e4
        go_wp2_with fail
        go_roundg gg
        case measure => omega
        case rel => exact ⟨k + 1, by omega, by go_num, hbw2⟩
      by_cases h6 : kd = 6
      · subst h6
        go_wp2_with fail
        refine (plays_6 (HA.out.alloc _) (HB.out.alloc _) hna hnb nn HNN.out wd (HTR.out.below (below1 wr _))).mono ?_
        rintro e wz ⟨rfl, hbz⟩
        have hbw2 := Below.on hbw (Below.on (below1 wr _) hbz)
        clear hbw hbz HA HB e0 e1 e2 e3 e4
        go_wp2_with fail
        go_roundg gg
        case measure => omega
        case rel => exact ⟨k + 1, by omega, by go_num, hbw2⟩
      by_cases h7 : kd = 7
      · subst h7
        go_wp2_with fail
        refine (plays_7 (HA.out.alloc _) (HB.out.alloc _) hna hnb nn HNN.out wd (HTR.out.below (below1 wr _))).mono ?_
        rintro e wz ⟨rfl, hbz⟩
        have hbw2 := Below.on hbw (Below.on (below1 wr _) hbz)
        clear hbw hbz HA HB e0 e1 e2 e3 e4
        go_wp2_with fail
        go_roundg gg
        case measure => omega
        case rel => exact ⟨k + 1, by omega, by go_num, hbw2⟩
      have hbw2 := Below.on hbw (below1 wr (.cells #[.int .i64 kd, .slice pa na ca, .slice pb nb cb, .int .i64 nn, U wd] 40))
      clear HA HB
      by_cases h8 : kd < 4
      · have h9 : decide (4 ≤ kd) = false := decide_eq_false (by omega)
        go_wp2_with fail
        go_roundg gg
        case measure => omega
        case rel => exact ⟨k + 1, by omega, by go_num, hbw2⟩
      · have h9 : decide (4 ≤ kd) = true := decide_eq_true (by omega)
        have h10 : decide (kd ≤ 7) = false := decide_eq_false (by omega)
        go_wp2_with fail
        go_roundg gg
        case measure => omega
        case rel => exact ⟨k + 1, by omega, by go_num, hbw2⟩

set_option maxRecDepth 20000 in
set_option maxHeartbeats 4000000 in
theorem natAsks_walk {P : Option Addr} {N C : Nat} {its : List Op5} {w : World} (h : Scr w P N C its) (hT : Tab w) :
    Calls Tryd.prog 3 #[.slice P N C] w fun e w' => e = .returned (.bool true) ∧ Below w.heap.size w w' := by
  have H : Hid (Scr w P N C its) := h
  have HT : Hid (Tab w) := hT
  clear h hT
  go_enter Tryd.func3, Tryd.ntmps3
  go_wp2_with fail
  have A0 : Hid (At (w.alloc (.cells #[.int .u64 0, .int .u64 6] 23)) (some ⟨w.heap.size, 0, none⟩) 2 2 [0, 6]) := lit_at w _ [0, 6] 2 rfl rfl (dig2 (by decide) (by decide)) (by omega)
  have hb0 : Below w.heap.size w (w.alloc (.cells #[.int .u64 0, .int .u64 6] 23)) := below1 w _
  have H0 : Hid (Scr (w.alloc (.cells #[.int .u64 0, .int .u64 6] 23)) P N C its) := H.out.below hb0
  have HT0 : Hid (Tab (w.alloc (.cells #[.int .u64 0, .int .u64 6] 23))) := HT.out.below hb0
  have HB0 : Hid (Below w.heap.size w (w.alloc (.cells #[.int .u64 0, .int .u64 6] 23))) := hb0
  generalize w.alloc (.cells #[.int .u64 0, .int .u64 6] 23) = W at *
  generalize (some (⟨w.heap.size, 0, none⟩ : Addr)) = pl at *
  have e1 : bitsN (valB B64 [0, 6]) = 67 := by decide +kernel
  have k1 : TzO (valB B64 [0, 6]) 65 := .inr ⟨by decide +kernel, by unfold TzIs; decide +kernel⟩
  have e2 : decide (valB B64 [0, 6] / 2 ^ 66 % 2 = 1) = true := by decide +kernel
  have e3 : cmpN (valB B64 [0, 6]) (valB B64 [9]) = 1 := by decide +kernel
  have K1 : Hid (TzO (valB B64 [0, 6]) 65) := k1
  have E1 : Hid (bitsN (valB B64 [0, 6]) = 67) := e1
  have E2 : Hid (decide (valB B64 [0, 6] / 2 ^ 66 % 2 = 1) = true) := e2
  have E3 : Hid (cmpN (valB B64 [0, 6]) (valB B64 [9]) = 1) := e3
  clear e1 e2 e3 k1 H HT hb0
  refine (bits_any A0.out (by omega)).mono ?_
  rintro e w1 ⟨rfl, hw⟩
  rw [E1.out]
  obtain rfl := hw.symm
  clear hw
  go_wp2_with fail
  refine (trail_any A0.out (by omega) K1.out HT0.out).mono ?_
  rintro e w1 ⟨rfl, hw⟩
  obtain rfl := hw.symm
  clear hw
  go_wp2_with fail
  refine (bit_any A0.out (by omega) 66 (by omega)).mono ?_
  rintro e w1 ⟨rfl, hw⟩
  rw [E2.out]
  obtain rfl := hw.symm
  clear hw
  go_wp2_with fail
  refine (cmp_w (A0.out.alloc _) (lit_at W _ [9] 1 rfl rfl (dig1 (by decide)) (by omega))).mono ?_
  rintro e w2 ⟨rfl, hb2⟩
  rw [E3.out]
  have hbx := Below.on (below1 W _) hb2
  have H2 : Hid (Scr w2 P N C its) := H0.out.below hbx
  have HT2 : Hid (Tab w2) := HT0.out.below hbx
  have HB2 : Hid (Below w.heap.size w w2) := Below.on HB0.out hbx
  clear hb2 hbx
  go_wp2_with fail
  refine (all47 H2.out HT2.out).mono ?_
  rintro e w3 ⟨rfl, hb3⟩
  have hbw := Below.on HB2.out hb3
  clear hb3
  go_wp2_with fail
  go_ret
  exact ⟨rfl, hbw⟩
end Go.Proofs.YtefbfapnclphlaaDoor
