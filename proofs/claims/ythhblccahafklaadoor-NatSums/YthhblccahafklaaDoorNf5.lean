import Derived.Test.YthhblccahafklaaDoorNf4
namespace Go.Proofs.YthhblccahafklaaDoor
open Go.RowKit Go.Shelf

/-- One call of a script. -/
structure Op5 where
  k : Int
  pa : Option Addr
  na : Nat
  ca : Nat
  xa : List Nat
  pb : Option Addr
  nb : Nat
  cb : Nat
  xb : List Nat
  nn : Int
  wd : Nat
/-- A script where it lies in memory. -/
structure Scr (w : World) (P : Option Addr) (N C : Nat) (its : List Op5) : Prop where
  len : its.length = N
  cap : N ≤ C
  big : C ≤ maxLen
  ats : ∀ t ∈ its, At w t.pa t.na t.ca t.xa ∧ At w t.pb t.nb t.cb t.xb ∧ t.na ≤ 17592186044416 ∧ t.nb ≤ 17592186044416 ∧ t.wd < B64 ∧ -9223372036854775808 ≤ t.nn ∧ t.nn ≤ 9223372036854775807
  cells : N = 0 ∨ ∃ g off, P = some ⟨g, off, none⟩ ∧ ∀ i (h : i < its.length), w.cell? ⟨g, off + i * 5, none⟩ = some (.int .i64 its[i].k) ∧ w.cell? ⟨g, off + i * 5 + 1, none⟩ = some (.slice its[i].pa its[i].na its[i].ca) ∧
    w.cell? ⟨g, off + i * 5 + 2, none⟩ = some (.slice its[i].pb its[i].nb its[i].cb) ∧ w.cell? ⟨g, off + i * 5 + 3, none⟩ = some (.int .i64 its[i].nn) ∧ w.cell? ⟨g, off + i * 5 + 4, none⟩ = some (U its[i].wd)
theorem Scr.below {w w' : World} {P : Option Addr} {N C : Nat} {its : List Op5} (h : Scr w P N C its) (hb : Below w.heap.size w w') : Scr w' P N C its := by
  refine ⟨h.len, h.cap, h.big, fun t ht => ?_, ?_⟩
  · obtain ⟨h1, h2, h3⟩ := h.ats t ht
    exact ⟨h1.below hb, h2.below hb, h3⟩
  · rcases h.cells with h0 | ⟨g, off, hP, hc⟩
    · exact .inl h0
    · refine .inr ⟨g, off, hP, fun i hi => ?_⟩
      obtain ⟨h0, h1, h2, h3, h4⟩ := hc i hi
      have hl : g < w.heap.size := World.block_lt_of_cell? w _ h0
      exact ⟨(hb.cell (p := ⟨g, off + i * 5, none⟩) hl).trans h0, (hb.cell (p := ⟨g, off + i * 5 + 1, none⟩) hl).trans h1, (hb.cell (p := ⟨g, off + i * 5 + 2, none⟩) hl).trans h2,
        (hb.cell (p := ⟨g, off + i * 5 + 3, none⟩) hl).trans h3, (hb.cell (p := ⟨g, off + i * 5 + 4, none⟩) hl).trans h4⟩

set_option maxRecDepth 20000 in
set_option maxHeartbeats 4000000 in
theorem all13 {P : Option Addr} {N C : Nat} {its : List Op5} {w : World} (h : Scr w P N C its) :
    Calls Tryd.prog 10 #[.slice P N C, .int .i64 1, .int .i64 3] w fun e w' => e = .returned (.bool true) ∧ Below w.heap.size w w' := by
  have H : Hid (Scr w P N C its) := h
  have HLN : Hid (its.length = N) := h.len
  have cap := h.cap; have big := h.big
  unfold maxLen at big
  clear h
  go_enter Tryd.func10, Tryd.ntmps10
  go_wp2_with fail
  go_loopg [11] N (fun gk iv wr => ∃ k : Nat, k + gk = N ∧ iv = .int .i64 k ∧ Below w.heap.size w wr)
  case atStart => exact ⟨0, by omega, rfl, Below.refl _ _⟩
  case round =>
    obtain ⟨k, hkg, rfl, hbw⟩ := hrel
    cases gk with
    | zero =>
      obtain rfl : k = N := by omega
      have hnk : ¬ (k : Int) < (k : Int) := by omega
      go_wp2_with fail
      go_ret
      exact ⟨rfl, hbw⟩
    | succ gg =>
      have hki : k < its.length := by rw [HLN.out]; omega
      have HR := H.out.below hbw
      obtain ⟨g, off, rfl, hc⟩ := HR.cells.resolve_left (by omega)
      obtain ⟨e0, e1, e2, e3, e4⟩ := hc k hki
      obtain ⟨hA, hB, hna, hnb, hwd, hn1, hn2⟩ := HR.ats its[k] (List.getElem_mem hki)
      have HA : Hid (At wr its[k].pa its[k].na its[k].ca its[k].xa) := hA
      have HB : Hid (At wr its[k].pb its[k].nb its[k].cb its[k].xb) := hB
      have hkk : (k : Int) < (N : Int) := by omega
      have hlt : g < wr.heap.size := World.block_lt_of_cell? wr _ e0
      have HWD : Hid (its[k].wd < B64) := hwd
      clear hc HR hA hB hn1 hn2 hwd
      generalize its[k].k = kd at *
      generalize its[k].pa = pa at *
      generalize its[k].na = na at *
      generalize its[k].ca = ca at *
      generalize its[k].xa = xa at *
      generalize its[k].pb = pb at *
      generalize its[k].nb = nb at *
      generalize its[k].cb = cb at *
      generalize its[k].xb = xb at *
      generalize its[k].nn = nn at *
      generalize its[k].wd = wd at *
      by_cases h1 : kd = 1
      · subst h1
        go_wp2_with fail
        refine (plays_1 (HA.out.alloc _) (HB.out.alloc _) hna hnb nn wd HWD.out).mono ?_
        rintro e wz ⟨rfl, hbz⟩
        have hbw2 := Below.on hbw (Below.on (below1 wr _) hbz)
        clear hbw hbz HA HB e0 e1 e2 e3 e4
        go_wp2_with fail
        go_roundg gg
        case measure => omega
        case rel => exact ⟨k + 1, by omega, by go_num, hbw2⟩
      · by_cases h2 : kd = 2
        · subst h2
          go_wp2_with fail
          refine (plays_2 (HA.out.alloc _) (HB.out.alloc _) hna hnb nn wd HWD.out).mono ?_
          rintro e wz ⟨rfl, hbz⟩
          have hbw2 := Below.on hbw (Below.on (below1 wr _) hbz)
          clear hbw hbz HA HB e0 e1 e2 e3 e4
          go_wp2_with fail
          go_roundg gg
          case measure => omega
          case rel => exact ⟨k + 1, by omega, by go_num, hbw2⟩
        · by_cases h3 : kd = 3
          · subst h3
            go_wp2_with fail
            refine (plays_3 (HA.out.alloc _) (HB.out.alloc _) hna hnb nn wd HWD.out).mono ?_
            rintro e wz ⟨rfl, hbz⟩
            have hbw2 := Below.on hbw (Below.on (below1 wr _) hbz)
            clear hbw hbz HA HB e0 e1 e2 e3 e4
            go_wp2_with fail
            go_roundg gg
            case measure => omega
            case rel => exact ⟨k + 1, by omega, by go_num, hbw2⟩
          · have hbw2 := Below.on hbw (below1 wr (.cells #[.int .i64 kd, .slice pa na ca, .slice pb nb cb, .int .i64 nn, U wd] 38))
            clear HA HB
            by_cases h5 : kd < 1
            · have h4 : decide (1 ≤ kd) = false := decide_eq_false (by omega)
              go_wp2_with fail
              go_roundg gg
              case measure => omega
              case rel => exact ⟨k + 1, by omega, by go_num, hbw2⟩
            · have h4 : decide (1 ≤ kd) = true := decide_eq_true (by omega)
              have h6 : decide (kd ≤ 3) = false := decide_eq_false (by omega)
              go_wp2_with fail
              go_roundg gg
              case measure => omega
              case rel => exact ⟨k + 1, by omega, by go_num, hbw2⟩

set_option maxRecDepth 20000 in
set_option maxHeartbeats 4000000 in
theorem natForms_walk {P : Option Addr} {N C : Nat} {its : List Op5} {w : World} (h : Scr w P N C its) :
    Calls Tryd.prog 3 #[.slice P N C] w fun e w' => e = .returned (.bool true) ∧ Below w.heap.size w w' := by
  have H : Hid (Scr w P N C its) := h
  clear h
  go_enter Tryd.func3, Tryd.ntmps3
  go_wp2_with fail
  refine (normP (lit_at w _ [5, 0] 2 rfl rfl (dig2 (by decide) (by decide)) (by omega))).mono ?_
  rintro e w1 ⟨p1, m1, u1, f1, rfl, hA1, hD1, hb1⟩
  obtain ⟨rfl, rfl⟩ := hD1.inj (show DocIs (valB B64 [5, 0]) [5] 0 from .inl ⟨(nf_one (x := 5) (by decide) (by decide)).lim.1 (by simp), nf_one (x := 5) (by decide) (by decide), rfl⟩)
  have A1 : Hid (At w1 p1 m1 m1 [5]) := hA1
  have hbw1 := Below.on (below1 w _) hb1
  have H1 : Hid (Scr w1 P N C its) := H.out.below hbw1
  clear hA1 hD1 hb1 H
  go_wp2_with fail
  refine (told1 0 (.inl rfl) (A1.out.alloc _) (lit_at w1 _ [5] 1 rfl rfl (dig1 (by decide)) (by omega))).mono ?_
  rintro e w2 ⟨rfl, hb2⟩
  have hbx2 := Below.on (below1 w1 _) hb2
  have hbw2 := Below.on hbw1 hbx2
  have H2 : Hid (Scr w2 P N C its) := H1.out.below hbx2
  clear hb2 hbx2 hbw1 H1 A1
  go_wp2_with fail
  rw [show Value.int IntKind.u64 7 = U 7 from rfl]
  refine (word_any 7 w2 (by decide)).mono ?_
  rintro e w3 ⟨p3, m3, z3, rfl, ho3, hn3, hm3, hb3⟩
  obtain rfl : z3 = [7] := hn3.inj B64_one (nf_one (x := 7) (by decide) (by decide))
  have A3 : Hid (At w3 p3 m3 m3 [7]) := ho3.at_ (by omega)
  have hbw3 := Below.on hbw2 hb3
  have H3 : Hid (Scr w3 P N C its) := H2.out.below hb3
  clear ho3 hn3 hb3 hbw2 H2
  go_wp2_with fail
  refine (same_t (A3.out.alloc _) (lit_at w3 _ [7] 1 rfl rfl (dig1 (by decide)) (by omega))).mono ?_
  rintro e w4 ⟨rfl, hb4⟩
  have hbx4 := Below.on (below1 w3 _) hb4
  have hbw4 := Below.on hbw3 hbx4
  have H4 : Hid (Scr w4 P N C its) := H3.out.below hbx4
  clear hb4 hbx4 hbw3 H3 A3
  go_wp2_with fail
  refine (form_any (lit_at w4 _ [0, 1] 2 rfl rfl (dig2 (by decide) (by decide)) (by omega))).mono ?_
  rw [show formB [0, 1] = true from by decide]
  rintro e w5 ⟨rfl, hw⟩
  obtain rfl := hw.symm
  clear hw
  have hbx5 := below1 w4 (.cells #[.int .u64 0, .int .u64 1] 27)
  have hbw5 := Below.on hbw4 hbx5
  have H5 : Hid (Scr (w4.alloc (.cells #[.int .u64 0, .int .u64 1] 27)) P N C its) := H4.out.below hbx5
  clear hbx5 hbw4 H4
  go_wp2_with fail
  refine (all13 H5.out).mono ?_
  rintro e w6 ⟨rfl, hb6⟩
  have hbw := Below.on hbw5 hb6
  clear hb6 hbw5
  go_wp2_with fail
  go_ret
  exact ⟨rfl, hbw⟩
end Go.Proofs.YthhblccahafklaaDoor
