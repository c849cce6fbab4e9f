import Derived.Test.YtefbfapnclphlaaDoorNf4
namespace Go.Proofs.YtefbfapnclphlaaDoor
open Go.RowKit Go.Shelf

/-- One call of a script. -/
structure Op5 where
  k : Int
  pa : Option Addr
  na : Nat
  ca : Nat
  xa : List Nat
  pb : Option Addr
  nb : Nat
  cb : Nat
  xb : List Nat
  nn : Int
  wd : Nat
/-- A script where it lies in memory. -/
structure Scr (w : World) (P : Option Addr) (N C : Nat) (its : List Op5) : Prop where
  len : its.length = N
  cap : N ≤ C
  big : C ≤ maxLen
  ats : ∀ t ∈ its, At w t.pa t.na t.ca t.xa ∧ At w t.pb t.nb t.cb t.xb ∧ t.na ≤ 17592186044416 ∧ t.nb ≤ 17592186044416 ∧ t.wd < B64 ∧ -9223372036854775808 ≤ t.nn ∧ t.nn ≤ 9223372036854775807
  cells : N = 0 ∨ ∃ g off, P = some ⟨g, off, none⟩ ∧ ∀ i (h : i < its.length), w.cell? ⟨g, off + i * 5, none⟩ = some (.int .i64 its[i].k) ∧ w.cell? ⟨g, off + i * 5 + 1, none⟩ = some (.slice its[i].pa its[i].na its[i].ca) ∧
    w.cell? ⟨g, off + i * 5 + 2, none⟩ = some (.slice its[i].pb its[i].nb its[i].cb) ∧ w.cell? ⟨g, off + i * 5 + 3, none⟩ = some (.int .i64 its[i].nn) ∧ w.cell? ⟨g, off + i * 5 + 4, none⟩ = some (U its[i].wd)
theorem Scr.below {w w' : World} {P : Option Addr} {N C : Nat} {its : List Op5} (h : Scr w P N C its) (hb : Below w.heap.size w w') : Scr w' P N C its := by
  refine ⟨h.len, h.cap, h.big, fun t ht => ?_, ?_⟩
  · obtain ⟨h1, h2, h3⟩ := h.ats t ht
    exact ⟨h1.below hb, h2.below hb, h3⟩
  · rcases h.cells with h0 | ⟨g, off, hP, hc⟩
    · exact .inl h0
    · refine .inr ⟨g, off, hP, fun i hi => ?_⟩
      obtain ⟨h0, h1, h2, h3, h4⟩ := hc i hi
      have hl : g < w.heap.size := World.block_lt_of_cell? w _ h0
      exact ⟨(hb.cell (p := ⟨g, off + i * 5, none⟩) hl).trans h0, (hb.cell (p := ⟨g, off + i * 5 + 1, none⟩) hl).trans h1, (hb.cell (p := ⟨g, off + i * 5 + 2, none⟩) hl).trans h2,
        (hb.cell (p := ⟨g, off + i * 5 + 3, none⟩) hl).trans h3, (hb.cell (p := ⟨g, off + i * 5 + 4, none⟩) hl).trans h4⟩

set_option maxRecDepth 20000 in
set_option maxHeartbeats 4000000 in
theorem all13 {P : Option Addr} {N C : Nat} {its : List Op5} {w : World} (h : Scr w P N C its) :
    Calls Tryd.prog 9 #[.slice P N C, .int .i64 1, .int .i64 3] w fun e w' => e = .returned (.bool true) ∧ Below w.heap.size w w' := by
  have H : Hid (Scr w P N C its) := h
  have HLN : Hid (its.length = N) := h.len
  have cap := h.cap; have big := h.big
  unfold maxLen at big
  clear h
  go_enter Tryd.func9, Tryd.ntmps9
  go_wp2_with fail
  go_loopg [11] N (fun gk iv wr => ∃ k : Nat, k + gk = N ∧ iv = .int .i64 k ∧ Below w.heap.size w wr)
  case atStart => exact ⟨0, by omega, rfl, Below.refl _ _⟩
  case round =>
    obtain ⟨k, hkg, rfl, hbw⟩ := hrel
    cases gk with
    | zero =>
      obtain rfl : k = N := by omega
      have hnk : ¬ (k : Int) < (k : Int) := by omega
      go_wp2_with fail
      go_ret
      exact ⟨rfl, hbw⟩
    | succ gg =>
      have hki : k < its.length := by rw [HLN.out]; omega
      have HR := H.out.below hbw
      obtain ⟨g, off, rfl, hc⟩ := HR.cells.resolve_left (by omega)
      obtain ⟨e0, e1, e2, e3, e4⟩ := hc k hki
      obtain ⟨hA, hB, hna, hnb, hwd, hn1, hn2⟩ := HR.ats its[k] (List.getElem_mem hki)
      have HA : Hid (At wr its[k].pa its[k].na its[k].ca its[k].xa) := hA
      have HB : Hid (At wr its[k].pb its[k].nb its[k].cb its[k].xb) := hB
      have hkk : (k : Int) < (N : Int) := by omega
      have hlt : g < wr.heap.size := World.block_lt_of_cell? wr _ e0
      have HWD : Hid (its[k].wd < B64) := hwd
      clear hc HR hA hB hn1 hn2 hwd
      generalize its[k].k = kd at *
      generalize its[k].pa = pa at *
      generalize its[k].na = na at *
      generalize its[k].ca = ca at *
      generalize its[k].xa = xa at *
      generalize its[k].pb = pb at *
      generalize its[k].nb = nb at *
      generalize its[k].cb = cb at *
      generalize its[k].xb = xb at *
      generalize its[k].nn = nn at *
      generalize its[k].wd = wd at *
      by_cases h1 : kd = 1
      · subst h1
        go_wp2_with fail
        refine (plays_1 (HA.out.alloc _) (HB.out.alloc _) hna hnb nn wd HWD.out).mono ?_
        rintro e wz ⟨rfl, hbz⟩
        have hbw2 := Below.on hbw (Below.on (below1 wr _) hbz)
        clear hbw hbz HA HB e0 e1 e2 e3 e4
        go_wp2_with fail
        go_roundg gg
        case measure => omega
        case rel => exact ⟨k + 1, by omega, by go_num, hbw2⟩
      · by_cases h2 : kd = 2
        · subst h2
          go_wp2_with fail
          refine (plays_2 (HA.out.alloc _) (HB.out.alloc _) hna hnb nn wd HWD.out).mono ?_
          rintro e wz ⟨rfl, hbz⟩
          have hbw2 := Below.on hbw (Below.on (below1 wr _) hbz)
          clear hbw hbz HA HB e0 e1 e2 e3 e4
          go_wp2_with fail
          go_roundg gg
          case measure => omega
          case rel => exact ⟨k + 1, by omega, by go_num, hbw2⟩
        · by_cases h3 : kd = 3
          · subst h3
            go_wp2_with fail
            refine (plays_3 (HA.out.alloc _) (HB.out.alloc _) hna hnb nn wd HWD.out).mono ?_
            rintro e wz ⟨rfl, hbz⟩
            have hbw2 := Below.on hbw (Below.on (below1 wr _) hbz)
            clear hbw hbz HA HB e0 e1 e2 e3 e4
            go_wp2_with fail
            go_roundg gg
            case measure => omega
            case rel => exact ⟨k + 1, by omega, by go_num, hbw2⟩
          · have hbw2 := Below.on hbw (below1 wr (.cells #[.int .i64 kd, .slice pa na ca, .slice pb nb cb, .int .i64 nn, U wd] 40))
            clear HA HB
            by_cases h5 : kd < 1
            · have h4 : decide (1 ≤ kd) = false := decide_eq_false (by omega)
              go_wp2_with fail
              go_roundg gg
              case measure => omega
              case rel => exact ⟨k + 1, by omega, by go_num, hbw2⟩
            · have h4 : decide (1 ≤ kd) = true := decide_eq_true (by omega)
              have h6 : decide (kd ≤ 3) = false := decide_eq_false (by omega)
              go_wp2_with fail
              go_roundg gg
              case measure => omega
              case rel => exact ⟨k + 1, by omega, by go_num, hbw2⟩

end Go.Proofs.YtefbfapnclphlaaDoor
