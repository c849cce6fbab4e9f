import Derived.Test.YthhblccahafklaaDoorNs1
namespace Go.Proofs.YthhblccahafklaaDoor
open Go.RowKit Go.Shelf

set_option maxRecDepth 20000 in
set_option maxHeartbeats 2000000 in
theorem list8 {pa pb : Option Addr} {na nb ca cb : Nat} {xa xb : List Nat} {w : World} (h : At w pa na ca xa) (k : At w pb nb cb xb) (nn : Int) (x : Nat) :
    Calls Tryd.prog 20 #[.agg #[.int .i64 8, .slice pa na ca, .slice pb nb cb, .int .i64 nn, U x]] w fun e w' => ∃ p' m' N' us f, e = .returned (.tuple #[.slice p' m' N', .int .u64 0, .int .i64 f]) ∧ At w' p' m' N' us ∧ TwoIs addR xa xb us f ∧ Below w.heap.size w w' := by
  have HA : Hid (At (w.alloc (.cells #[.int .i64 8, .slice pa na ca, .slice pb nb cb, .int .i64 nn, U x] 38)) pa na ca xa) := h.alloc _
  have HB : Hid (At (w.alloc (.cells #[.int .i64 8, .slice pa na ca, .slice pb nb cb, .int .i64 nn, U x] 38)) pb nb cb xb) := k.alloc _
  have hb0 : Below w.heap.size w (w.alloc (.cells #[.int .i64 8, .slice pa na ca, .slice pb nb cb, .int .i64 nn, U x] 38)) := below1 w _
  clear h k
  go_enter Tryd.func20, Tryd.ntmps20
  go_wp2_with fail
  refine (addP HA.out HB.out).mono ?_
  rintro e w1 ⟨p1, m1, us, f1, rfl, hA1, hD1, hb1⟩
  have A1 : Hid (At w1 p1 m1 m1 us) := hA1
  have D1 : Hid (TwoIs addR xa xb us f1) := hD1
  have hbw := Below.on hb0 hb1
  clear hA1 hD1 hb1 hb0 HA HB
  go_wp2_with fail
  go_ret3
  exact ⟨p1, m1, m1, us, f1, rfl, A1.out, D1.out, hbw⟩

set_option maxRecDepth 20000 in
set_option maxHeartbeats 2000000 in
theorem doc8 {pa pb : Option Addr} {na nb ca cb : Nat} {xa xb : List Nat} {w : World} (h : At w pa na ca xa) (k : At w pb nb cb xb) (nn : Int) (x : Nat) :
    Calls Tryd.prog 22 #[.agg #[.int .i64 8, .slice pa na ca, .slice pb nb cb, .int .i64 nn, U x]] w fun e w' => ∃ p' m' N' us f, e = .returned (.tuple #[.slice p' m' N', .int .u64 0, .int .i64 f]) ∧ At w' p' m' N' us ∧ TwoIs addR xa xb us f ∧ Below w.heap.size w w' := by
  have HA : Hid (At (w.alloc (.cells #[.int .i64 8, .slice pa na ca, .slice pb nb cb, .int .i64 nn, U x] 38)) pa na ca xa) := h.alloc _
  have HB : Hid (At (w.alloc (.cells #[.int .i64 8, .slice pa na ca, .slice pb nb cb, .int .i64 nn, U x] 38)) pb nb cb xb) := k.alloc _
  have hb0 : Below w.heap.size w (w.alloc (.cells #[.int .i64 8, .slice pa na ca, .slice pb nb cb, .int .i64 nn, U x] 38)) := below1 w _
  clear h k
  go_enter Tryd.func22, Tryd.ntmps22
  go_wp2_with fail
  refine (docaddD HA.out HB.out).mono ?_
  rintro e w1 ⟨p1, m1, N1, us, f1, rfl, hA1, hD1, hb1⟩
  have A1 : Hid (At w1 p1 m1 N1 us) := hA1
  have D1 : Hid (TwoIs addR xa xb us f1) := hD1
  have hbw := Below.on hb0 hb1
  clear hA1 hD1 hb1 hb0 HA HB
  go_wp2_with fail
  go_ret3
  exact ⟨p1, m1, N1, us, f1, rfl, A1.out, D1.out, hbw⟩

set_option maxRecDepth 20000 in
set_option maxHeartbeats 2000000 in
theorem list9 {pa pb : Option Addr} {na nb ca cb : Nat} {xa xb : List Nat} {w : World} (h : At w pa na ca xa) (k : At w pb nb cb xb) (nn : Int) (x : Nat) :
    Calls Tryd.prog 20 #[.agg #[.int .i64 9, .slice pa na ca, .slice pb nb cb, .int .i64 nn, U x]] w fun e w' => ∃ p' m' N' us f, e = .returned (.tuple #[.slice p' m' N', .int .u64 0, .int .i64 f]) ∧ At w' p' m' N' us ∧ TwoIs subR xa xb us f ∧ Below w.heap.size w w' := by
  have HA : Hid (At (w.alloc (.cells #[.int .i64 9, .slice pa na ca, .slice pb nb cb, .int .i64 nn, U x] 38)) pa na ca xa) := h.alloc _
  have HB : Hid (At (w.alloc (.cells #[.int .i64 9, .slice pa na ca, .slice pb nb cb, .int .i64 nn, U x] 38)) pb nb cb xb) := k.alloc _
  have hb0 : Below w.heap.size w (w.alloc (.cells #[.int .i64 9, .slice pa na ca, .slice pb nb cb, .int .i64 nn, U x] 38)) := below1 w _
  clear h k
  go_enter Tryd.func20, Tryd.ntmps20
  go_wp2_with fail
  refine (subP HA.out HB.out).mono ?_
  rintro e w1 ⟨p1, m1, us, f1, rfl, hA1, hD1, hb1⟩
  have A1 : Hid (At w1 p1 m1 m1 us) := hA1
  have D1 : Hid (TwoIs subR xa xb us f1) := hD1
  have hbw := Below.on hb0 hb1
  clear hA1 hD1 hb1 hb0 HA HB
  go_wp2_with fail
  go_ret3
  exact ⟨p1, m1, m1, us, f1, rfl, A1.out, D1.out, hbw⟩

set_option maxRecDepth 20000 in
set_option maxHeartbeats 2000000 in
theorem doc9 {pa pb : Option Addr} {na nb ca cb : Nat} {xa xb : List Nat} {w : World} (h : At w pa na ca xa) (k : At w pb nb cb xb) (nn : Int) (x : Nat) :
    Calls Tryd.prog 22 #[.agg #[.int .i64 9, .slice pa na ca, .slice pb nb cb, .int .i64 nn, U x]] w fun e w' => ∃ p' m' N' us f, e = .returned (.tuple #[.slice p' m' N', .int .u64 0, .int .i64 f]) ∧ At w' p' m' N' us ∧ TwoIs subR xa xb us f ∧ Below w.heap.size w w' := by
  have HA : Hid (At (w.alloc (.cells #[.int .i64 9, .slice pa na ca, .slice pb nb cb, .int .i64 nn, U x] 38)) pa na ca xa) := h.alloc _
  have HB : Hid (At (w.alloc (.cells #[.int .i64 9, .slice pa na ca, .slice pb nb cb, .int .i64 nn, U x] 38)) pb nb cb xb) := k.alloc _
  have hb0 : Below w.heap.size w (w.alloc (.cells #[.int .i64 9, .slice pa na ca, .slice pb nb cb, .int .i64 nn, U x] 38)) := below1 w _
  clear h k
  go_enter Tryd.func22, Tryd.ntmps22
  go_wp2_with fail
  refine (docsubD HA.out HB.out).mono ?_
  rintro e w1 ⟨p1, m1, N1, us, f1, rfl, hA1, hD1, hb1⟩
  have A1 : Hid (At w1 p1 m1 N1 us) := hA1
  have D1 : Hid (TwoIs subR xa xb us f1) := hD1
  have hbw := Below.on hb0 hb1
  clear hA1 hD1 hb1 hb0 HA HB
  go_wp2_with fail
  go_ret3
  exact ⟨p1, m1, N1, us, f1, rfl, A1.out, D1.out, hbw⟩

theorem addR.er {a b : Nat} {us : List Nat} {f : Int} (h : addR a b us f) : f = 0 ∨ f = 3 ∨ f = 5 := by rcases DocIs.er h with e | e <;> simp [e]
theorem TwoIs.er {r : Nat → Nat → List Nat → Int → Prop} (hr : ∀ {a b us f}, r a b us f → f = 0 ∨ f = 3 ∨ f = 5) {xs ys us : List Nat} {f : Int} (h : TwoIs r xs ys us f) : f = 0 ∨ f = 1 ∨ f = 2 ∨ f = 3 ∨ f = 4 ∨ f = 5 := by
  rcases h with ⟨_, _, rfl⟩ | ⟨_, _, h3⟩
  · simp
  · rcases hr h3 with e | e | e <;> simp [e]

set_option maxRecDepth 20000 in
set_option maxHeartbeats 4000000 in
theorem plays_8 {pa pb : Option Addr} {na nb ca cb : Nat} {xa xb : List Nat} {w : World} (h : At w pa na ca xa) (k : At w pb nb cb xb) (hna : na ≤ 17592186044416) (hnb : nb ≤ 17592186044416) (nn : Int) (x : Nat) :
    Calls Tryd.prog 14 #[.agg #[.int .i64 8, .slice pa na ca, .slice pb nb cb, .int .i64 nn, U x]] w fun e w' => e = .returned (.bool true) ∧ Below w.heap.size w w' := by
  have HA : Hid (At w pa na ca xa) := h
  have HB : Hid (At w pb nb cb xb) := k
  clear h k
  go_enter Tryd.func14, Tryd.ntmps14
  go_wp2_with fail
  have X0 : B5 (w.alloc (.cells #[.int .i64 8, .slice pa na ca, .slice pb nb cb, .int .i64 nn, U x] 38)) w.heap.size (.int .i64 8) (.slice pa na ca) (.slice pb nb cb) (.int .i64 nn) (U x) := B5.new ..
  have hb0 : Below w.heap.size w (w.alloc (.cells #[.int .i64 8, .slice pa na ca, .slice pb nb cb, .int .i64 nn, U x] 38)) := below1 w _
  generalize w.alloc (.cells #[.int .i64 8, .slice pa na ca, .slice pb nb cb, .int .i64 nn, U x] 38) = W at *
  obtain ⟨g, hg⟩ : ∃ g, g = w.heap.size := ⟨_, rfl⟩
  rw [← hg] at X0 ⊢
  clear hg
  refine (twin5 (HA.out.below hb0) (HB.out.below hb0) hna hnb 8 nn x).mono ?_
  rintro e w1 ⟨p1, p2, rfl, hA1, hA2, hb1⟩
  have X1 : Hid (B5 w1 g (.int .i64 8) (.slice pa na ca) (.slice pb nb cb) (.int .i64 nn) (U x)) := X0.below hb1
  have A1 : Hid (At w1 p1 na na xa) := hA1
  have A2 : Hid (At w1 p2 nb nb xb) := hA2
  have HB1 : Hid (Below w.heap.size w w1) := Below.on hb0 hb1
  clear X0 hb0 hA1 hA2 hb1
  go_wp2_with fail
  refine (list8 A1.out A2.out nn x).mono ?_
  rintro e w2 ⟨p3, m3, N3, u3, f3, rfl, hA3, hD3, hb3⟩
  have A3 : Hid (At w2 p3 m3 N3 u3) := hA3
  have D3 : Hid (TwoIs addR xa xb u3 f3) := hD3
  have HB3 : Hid (Below w.heap.size w w2) := Below.on HB1.out hb3
  obtain ⟨c0, c1, c2, c3, c4, c5, c6, c7, c8, c9⟩ := X1.out.below hb3
  clear hA3 hD3 hb3 X1 A1 A2 HB1
  go_wp2_with fail
  refine (doc8 (HA.out.below HB3.out) (HB.out.below HB3.out) nn x).mono ?_
  rintro e w3 ⟨p4, m4, N4, u4, f4, rfl, hA4, hD4, hb4⟩
  obtain ⟨eu, ef⟩ := TwoIs.inj (fun h k => DocIs.inj h k) D3.out hD4
  subst eu ef
  have A4 : Hid (At w3 p4 m4 N4 u3) := hA4
  have A34 : Hid (At w3 p3 m3 N3 u3) := A3.out.below hb4
  have hbw := Below.on HB3.out hb4
  clear c0 c1 c2 c3 c4 c5 c6 c7 c8 c9
  clear hA4 hD4 hb4 A3 HB3
  go_wp2_with fail
  refine (told1 f3 (TwoIs.er (fun h => addR.er h) D3.out) A34.out A4.out).mono ?_
  rintro e w4 ⟨rfl, hb5⟩
  have hbw5 := Below.on hbw hb5
  go_wp2_with fail
  go_ret
  exact ⟨rfl, hbw5⟩

set_option maxRecDepth 20000 in
set_option maxHeartbeats 4000000 in
theorem plays_9 {pa pb : Option Addr} {na nb ca cb : Nat} {xa xb : List Nat} {w : World} (h : At w pa na ca xa) (k : At w pb nb cb xb) (hna : na ≤ 17592186044416) (hnb : nb ≤ 17592186044416) (nn : Int) (x : Nat) :
    Calls Tryd.prog 14 #[.agg #[.int .i64 9, .slice pa na ca, .slice pb nb cb, .int .i64 nn, U x]] w fun e w' => e = .returned (.bool true) ∧ Below w.heap.size w w' := by
  have HA : Hid (At w pa na ca xa) := h
  have HB : Hid (At w pb nb cb xb) := k
  clear h k
  go_enter Tryd.func14, Tryd.ntmps14
  go_wp2_with fail
  have X0 : B5 (w.alloc (.cells #[.int .i64 9, .slice pa na ca, .slice pb nb cb, .int .i64 nn, U x] 38)) w.heap.size (.int .i64 9) (.slice pa na ca) (.slice pb nb cb) (.int .i64 nn) (U x) := B5.new ..
  have hb0 : Below w.heap.size w (w.alloc (.cells #[.int .i64 9, .slice pa na ca, .slice pb nb cb, .int .i64 nn, U x] 38)) := below1 w _
  generalize w.alloc (.cells #[.int .i64 9, .slice pa na ca, .slice pb nb cb, .int .i64 nn, U x] 38) = W at *
  obtain ⟨g, hg⟩ : ∃ g, g = w.heap.size := ⟨_, rfl⟩
  rw [← hg] at X0 ⊢
  clear hg
  refine (twin5 (HA.out.below hb0) (HB.out.below hb0) hna hnb 9 nn x).mono ?_
  rintro e w1 ⟨p1, p2, rfl, hA1, hA2, hb1⟩
  have X1 : Hid (B5 w1 g (.int .i64 9) (.slice pa na ca) (.slice pb nb cb) (.int .i64 nn) (U x)) := X0.below hb1
  have A1 : Hid (At w1 p1 na na xa) := hA1
  have A2 : Hid (At w1 p2 nb nb xb) := hA2
  have HB1 : Hid (Below w.heap.size w w1) := Below.on hb0 hb1
  clear X0 hb0 hA1 hA2 hb1
  go_wp2_with fail
  refine (list9 A1.out A2.out nn x).mono ?_
  rintro e w2 ⟨p3, m3, N3, u3, f3, rfl, hA3, hD3, hb3⟩
  have A3 : Hid (At w2 p3 m3 N3 u3) := hA3
  have D3 : Hid (TwoIs subR xa xb u3 f3) := hD3
  have HB3 : Hid (Below w.heap.size w w2) := Below.on HB1.out hb3
  obtain ⟨c0, c1, c2, c3, c4, c5, c6, c7, c8, c9⟩ := X1.out.below hb3
  clear hA3 hD3 hb3 X1 A1 A2 HB1
  go_wp2_with fail
  refine (doc9 (HA.out.below HB3.out) (HB.out.below HB3.out) nn x).mono ?_
  rintro e w3 ⟨p4, m4, N4, u4, f4, rfl, hA4, hD4, hb4⟩
  obtain ⟨eu, ef⟩ := TwoIs.inj (fun h k => subR.inj h k) D3.out hD4
  subst eu ef
  have A4 : Hid (At w3 p4 m4 N4 u3) := hA4
  have A34 : Hid (At w3 p3 m3 N3 u3) := A3.out.below hb4
  have hbw := Below.on HB3.out hb4
  clear c0 c1 c2 c3 c4 c5 c6 c7 c8 c9
  clear hA4 hD4 hb4 A3 HB3
  go_wp2_with fail
  refine (told1 f3 (TwoIs.er (fun h => subR.er h) D3.out) A34.out A4.out).mono ?_
  rintro e w4 ⟨rfl, hb5⟩
  have hbw5 := Below.on hbw hb5
  go_wp2_with fail
  go_ret
  exact ⟨rfl, hbw5⟩

set_option maxRecDepth 20000 in
set_option maxHeartbeats 4000000 in
theorem all89 {P : Option Addr} {N C : Nat} {its : List Op5} {w : World} (h : Scr w P N C its) :
    Calls Tryd.prog 10 #[.slice P N C, .int .i64 8, .int .i64 9] w fun e w' => e = .returned (.bool true) ∧ Below w.heap.size w w' := by
  have H : Hid (Scr w P N C its) := h
  have HLN : Hid (its.length = N) := h.len
  have cap := h.cap; have big := h.big
  unfold maxLen at big
  clear h
  go_enter Tryd.func10, Tryd.ntmps10
  go_wp2_with fail
  go_loopg [11] N (fun gk iv wr => ∃ k : Nat, k + gk = N ∧ iv = .int .i64 k ∧ Below w.heap.size w wr)
  case atStart => exact ⟨0, by omega, rfl, Below.refl _ _⟩
  case round =>
    obtain ⟨k, hkg, rfl, hbw⟩ := hrel
    cases gk with
    | zero =>
      obtain rfl : k = N := by omega
      have hnk : ¬ (k : Int) < (k : Int) := by omega
      go_wp2_with fail
      go_ret
      exact ⟨rfl, hbw⟩
    | succ gg =>
      have hki : k < its.length := by rw [HLN.out]; omega
      have HR := H.out.below hbw
      obtain ⟨g, off, rfl, hc⟩ := HR.cells.resolve_left (by omega)
      obtain ⟨e0, e1, e2, e3, e4⟩ := hc k hki
      obtain ⟨hA, hB, hna, hnb, hwd, hn1, hn2⟩ := HR.ats its[k] (List.getElem_mem hki)
      have HA : Hid (At wr its[k].pa its[k].na its[k].ca its[k].xa) := hA
      have HB : Hid (At wr its[k].pb its[k].nb its[k].cb its[k].xb) := hB
      have hkk : (k : Int) < (N : Int) := by omega
      have hlt : g < wr.heap.size := World.block_lt_of_cell? wr _ e0
      clear hc HR hA hB hn1 hn2 hwd
      generalize its[k].k = kd at *
      generalize its[k].pa = pa at *
      generalize its[k].na = na at *
      generalize its[k].ca = ca at *
      generalize its[k].xa = xa at *
      generalize its[k].pb = pb at *
      generalize its[k].nb = nb at *
      generalize its[k].cb = cb at *
      generalize its[k].xb = xb at *
      generalize its[k].nn = nn at *
      generalize its[k].wd = wd at *
      by_cases h1 : kd = 8
      · subst h1
        go_wp2_with fail
        refine (plays_8 (HA.out.alloc _) (HB.out.alloc _) hna hnb nn wd).mono ?_
        rintro e wz ⟨rfl, hbz⟩
        have hbw2 := Below.on hbw (Below.on (below1 wr _) hbz)
        clear hbw hbz HA HB e0 e1 e2 e3 e4
        go_wp2_with fail
        go_roundg gg
        case measure => omega
        case rel => exact ⟨k + 1, by omega, by go_num, hbw2⟩
      · by_cases h2 : kd = 9
        · subst h2
          clear h1
          go_wp2_with fail
          refine (plays_9 (HA.out.alloc _) (HB.out.alloc _) hna hnb nn wd).mono ?_
          rintro e wz ⟨rfl, hbz⟩
          have hbw2 := Below.on hbw (Below.on (below1 wr _) hbz)
          clear hbw hbz HA HB e0 e1 e2 e3 e4
          go_wp2_with fail
          go_roundg gg
          case measure => omega
          case rel => exact ⟨k + 1, by omega, by go_num, hbw2⟩
        · have hbw2 := Below.on hbw (below1 wr (.cells #[.int .i64 kd, .slice pa na ca, .slice pb nb cb, .int .i64 nn, U wd] 38))
          clear HA HB
          by_cases h5 : kd < 8
          · have h4 : decide (8 ≤ kd) = false := decide_eq_false (by omega)
            go_wp2_with fail
            go_roundg gg
            case measure => omega
            case rel => exact ⟨k + 1, by omega, by go_num, hbw2⟩
          · have h4 : decide (8 ≤ kd) = true := decide_eq_true (by omega)
            have h6 : decide (kd ≤ 9) = false := decide_eq_false (by omega)
            go_wp2_with fail
            go_roundg gg
            case measure => omega
            case rel => exact ⟨k + 1, by omega, by go_num, hbw2⟩

set_option maxRecDepth 20000 in
set_option maxHeartbeats 2000000 in
theorem natSums_walk {P : Option Addr} {N C : Nat} {its : List Op5} {w : World} (h : Scr w P N C its) :
    Calls Tryd.prog 4 #[.slice P N C] w fun e w' => e = .returned (.bool true) ∧ Below w.heap.size w w' := by
  have H : Hid (Scr w P N C its) := h
  clear h
  go_enter Tryd.func4, Tryd.ntmps4
  go_wp2_with fail
  refine (awake_any w).mono ?_
  rintro e w1 ⟨rfl, hb1⟩
  have H1 : Hid (Scr w1 P N C its) := H.out.below hb1
  clear H
  go_wp2_with fail
  refine (all89 H1.out).mono ?_
  rintro e w2 ⟨rfl, hb2⟩
  have hbw := Below.on hb1 hb2
  clear hb1 hb2
  go_wp2_with fail
  go_ret
  exact ⟨rfl, hbw⟩
end Go.Proofs.YthhblccahafklaaDoor
