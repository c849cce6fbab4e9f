import Derived.Test.YtdkbfffpnpjpiaaMp1
import Derived.Deep.RegionWith
import Derived.Deep.DeepCutAuto
import Derived.Deep.LoopGhost
namespace Go.Proofs.Ytdkbfffpnpjpiaa
open Go.RowKit Go.Shelf

set_option maxRecDepth 20000 in
set_option maxHeartbeats 4000000 in
theorem plays3 {pa pb pl : Option Addr} {na nb nl ca cb cl : Nat} {xa xb : List Nat} {w : World} (h : At w pa na ca xa) (k : At w pb nb cb xb) (hna : na ≤ 17592186044416) (hnb : nb ≤ 17592186044416) (nn : Int) (hnn : nn ≤ 9223372036854775807) :
    Calls Try.prog 19 #[.agg #[.int .i64 3, .slice pa na ca, .slice pb nb cb, .int .i64 nn, .slice pl nl cl]] w fun e w' => e = .returned (.bool true) ∧ Below w.heap.size w w' := by
  have HA : Hid (At w pa na ca xa) := h
  have HB : Hid (At w pb nb cb xb) := k
  clear h k
  go_enter Try.func19, Try.ntmps19
  go_wp2_with fail
  have X0 : B5 (w.alloc (.cells #[.int .i64 3, .slice pa na ca, .slice pb nb cb, .int .i64 nn, .slice pl nl cl] 43)) w.heap.size (.int .i64 3) (.slice pa na ca) (.slice pb nb cb) (.int .i64 nn) (.slice pl nl cl) := B5.new ..
  have hb0 : Below w.heap.size w (w.alloc (.cells #[.int .i64 3, .slice pa na ca, .slice pb nb cb, .int .i64 nn, .slice pl nl cl] 43)) := below1 w _
  generalize w.alloc (.cells #[.int .i64 3, .slice pa na ca, .slice pb nb cb, .int .i64 nn, .slice pl nl cl] 43) = W at *
  obtain ⟨g, hg⟩ : ∃ g, g = w.heap.size := ⟨_, rfl⟩
  rw [← hg] at X0 ⊢
  clear hg
  have XB : Hid (B5 W.drew g (.int .i64 3) (.slice pa na ca) (.slice pb nb cb) (.int .i64 nn) (.slice pl nl cl)) := ⟨X0.c0, X0.c1, X0.c2, X0.c3, X0.c4⟩
  have HA0 : Hid (At W.drew pa na ca xa) := (HA.out.below hb0).drewN 1
  have HB0 : Hid (At W.drew pb nb cb xb) := (HB.out.below hb0).drewN 1
  have HBW : Hid (Below w.heap.size w W.drew) := bDrew2 hb0
  obtain ⟨c0, c1, c2, c3, c4⟩ := X0
  clear hb0 HA HB
  go_cut [3, 4] (fun s3 s4 wx => ∃ p1 p2, s3 = Value.slice p1 na na ∧ s4 = Value.slice p2 nb nb ∧ At wx p1 na na xa ∧ At wx p2 nb nb xb ∧ At wx pa na ca xa ∧ At wx pb nb cb xb ∧ B5 wx g (.int .i64 3) (.slice pa na ca) (.slice pb nb cb) (.int .i64 nn) (.slice pl nl cl) ∧ Below w.heap.size w wx)
  case first =>
    (go_region_with (first
      | (go_at_call 29; (with_reducible refine (twin_at HA0.out hna).mono ?_); rintro e w1 ⟨p1, rfl, hA1, hb1⟩; obtain ⟨d0, d1, d2, d3, d4⟩ := XB.out.below hb1; have A1 : Hid (At w1 p1 na na xa) := hA1; have HA1 : Hid (At w1 pa na ca xa) := HA0.out.below hb1; have HB1 : Hid (At w1 pb nb cb xb) := HB0.out.below hb1; have XB1 : Hid (B5 w1 g (.int .i64 3) (.slice pa na ca) (.slice pb nb cb) (.int .i64 nn) (.slice pl nl cl)) := XB.out.below hb1; have HBW1 : Hid (Below w.heap.size w w1) := Below.on HBW.out hb1; clear hA1 hb1)
      | (go_at_call 29; (with_reducible refine (twin_at HB1.out hnb).mono ?_); rintro e w2 ⟨p2, rfl, hA2, hb2⟩; have RR : Hid (At w2 p1 na na xa ∧ At w2 p2 nb nb xb ∧ At w2 pa na ca xa ∧ At w2 pb nb cb xb ∧ B5 w2 g (.int .i64 3) (.slice pa na ca) (.slice pb nb cb) (.int .i64 nn) (.slice pl nl cl) ∧ Below w.heap.size w w2) := ⟨A1.out.below hb2, hA2, HA1.out.below hb2, HB1.out.below hb2, XB1.out.below hb2, Below.on HBW1.out hb2⟩; clear hA2 hb2)))
    all_goals
      (go_wp2_with fail
       go_meet
       exact ⟨p1, p2, rfl, rfl, RR.out⟩)
  case rest =>
    obtain ⟨p1, p2, rfl, rfl, a1, a2, ha, hb, X, hbw⟩ := hcut
    have A1 : Hid (At wc p1 na na xa) := a1
    have A2 : Hid (At wc p2 nb nb xb) := a2
    have HA : Hid (At wc pa na ca xa) := ha
    have HB : Hid (At wc pb nb cb xb) := hb
    have XC : Hid (B5 wc g (.int .i64 3) (.slice pa na ca) (.slice pb nb cb) (.int .i64 nn) (.slice pl nl cl)) := X
    clear XB HA0 HB0 HBW c0 c1 c2 c3 c4 a1 a2 ha hb
    obtain ⟨c0, c1, c2, c3, c4⟩ := X
    go_wp2_with fail
    refine (powP A1.out nn hnn).mono ?_
    rintro e w3 ⟨p3, m3, z3, f3, rfl, hA3, hM3, hb3⟩
    clear c0 c1 c2 c3 c4
    have A3 : Hid (At w3 p3 m3 m3 z3) := hA3
    have M3 : Hid (PowIs xa nn z3 f3) := hM3
    have HA3 : Hid (At w3 pa na ca xa) := HA.out.below hb3
    have HB3 : Hid (At w3 pb nb cb xb) := HB.out.below hb3
    have hbw3 := Below.on hbw hb3
    obtain ⟨c0, c1, c2, c3, c4⟩ := XC.out.below hb3
    clear A1 A2 HA HB XC hbw hA3 hM3 hb3
    go_wp2_with fail
    refine (docpowD HA3.out nn hnn).mono ?_
    rintro e w4 ⟨p4, m4, N4, z4, f4, rfl, hA4, hM4, hb4⟩
    clear c0 c1 c2 c3 c4
    obtain ⟨ez, ef⟩ := M3.out.inj hM4
    subst ez ef
    have A4 : Hid (At w4 p4 m4 N4 z3) := hA4
    have A34 : Hid (At w4 p3 m3 m3 z3) := A3.out.below hb4
    have hbw4 := Below.on hbw3 hb4
    clear hA4 hM4 hb4 A3 HA3 HB3 hbw3
    go_wp2_with fail
    refine (told_e f3 M3.out.er A34.out A4.out).mono ?_
    rintro e w5 ⟨rfl, hb5⟩
    have hbw5 := Below.on hbw4 hb5
    go_wp2_with fail
    go_ret
    exact ⟨rfl, hbw5⟩

set_option maxRecDepth 20000 in
set_option maxHeartbeats 4000000 in
theorem all33 {P : Option Addr} {N C : Nat} {its : List Op5} {w : World} (h : Scr w P N C its) :
    Calls Try.prog 9 #[.slice P N C, .int .i64 3, .int .i64 3] w fun e w' => e = .returned (.bool true) ∧ Below w.heap.size w w' := by
  have H : Hid (Scr w P N C its) := h
  have HLN : Hid (its.length = N) := h.len
  have cap := h.cap; have big := h.big
  unfold maxLen at big
  clear h
  go_enter Try.func9, Try.ntmps9
  go_wp2_with fail
  go_loopg [11] N (fun gk iv wr => ∃ k : Nat, k + gk = N ∧ iv = .int .i64 k ∧ Below w.heap.size w wr)
  case atStart => exact ⟨0, by omega, rfl, Below.refl _ _⟩
  case round =>
    obtain ⟨k, hkg, rfl, hbw⟩ := hrel
    cases gk with
    | zero =>
      obtain rfl : k = N := by omega
      have hnk : ¬ (k : Int) < (k : Int) := by omega
      go_wp2_with fail
      go_ret
      exact ⟨rfl, hbw⟩
    | succ gg =>
      have hki : k < its.length := by rw [HLN.out]; omega
      have HR := H.out.below hbw
      obtain ⟨g, off, rfl, hc⟩ := HR.cells.resolve_left (by omega)
      obtain ⟨e0, e1, e2, e3, e4⟩ := hc k hki
      obtain ⟨hA, hB, hna, hnb, hn1, hn2⟩ := HR.ats its[k] (List.getElem_mem hki)
      have HA : Hid (At wr its[k].pa its[k].na its[k].ca its[k].xa) := hA
      have HB : Hid (At wr its[k].pb its[k].nb its[k].cb its[k].xb) := hB
      have hkk : (k : Int) < (N : Int) := by omega
      have hlt : g < wr.heap.size := World.block_lt_of_cell? wr _ e0
      clear hc HR hA hB
      generalize its[k].k = kd at *
      generalize its[k].pa = pa at *
      generalize its[k].na = na at *
      generalize its[k].ca = ca at *
      generalize its[k].xa = xa at *
      generalize its[k].pb = pb at *
      generalize its[k].nb = nb at *
      generalize its[k].cb = cb at *
      generalize its[k].xb = xb at *
      generalize its[k].nn = nn at *
      generalize its[k].pl = pl at *
      generalize its[k].nl = nl at *
      generalize its[k].cl = cl at *
      by_cases h1 : kd = 3
      · subst h1
        go_wp2_with fail
        refine (plays3 (HA.out.alloc _) (HB.out.alloc _) hna hnb nn hn2).mono ?_
        rintro e wz ⟨rfl, hbz⟩
        have hbw2 := Below.on hbw (Below.on (below1 wr _) hbz)
        clear hbw hbz HA HB e0 e1 e2 e3 e4
        go_wp2_with fail
        go_roundg gg
        case measure => omega
        case rel => exact ⟨k + 1, by omega, by go_num, hbw2⟩
      · have hbw2 := Below.on hbw (below1 wr (.cells #[.int .i64 kd, .slice pa na ca, .slice pb nb cb, .int .i64 nn, .slice pl nl cl] 43))
        clear HA HB
        by_cases h3 : kd < 3
        · have h4 : decide (3 ≤ kd) = false := decide_eq_false (by omega)
          go_wp2_with fail
          go_roundg gg
          case measure => omega
          case rel => exact ⟨k + 1, by omega, by go_num, hbw2⟩
        · have h4 : decide (3 ≤ kd) = true := decide_eq_true (by omega)
          have h5 : decide (kd ≤ 3) = false := decide_eq_false (by omega)
          go_wp2_with fail
          go_roundg gg
          case measure => omega
          case rel => exact ⟨k + 1, by omega, by go_num, hbw2⟩

set_option maxRecDepth 20000 in
set_option maxHeartbeats 2000000 in
theorem natmulPows_walk {P : Option Addr} {N C : Nat} {its : List Op5} {w : World} (h : Scr w P N C its) :
    Calls Try.prog 3 #[.slice P N C] w fun e w' => e = .returned (.bool true) ∧ Below w.heap.size w w' := by
  have H : Hid (Scr w P N C its) := h
  clear h
  go_enter Try.func3, Try.ntmps3
  go_wp2_with fail
  rw [show Value.int IntKind.i64 4 = .int .i64 ((4 : Nat) : Int) from rfl]
  refine (pow_any (lit_at w _ [3] 1 rfl rfl (dig1 (by decide)) (by omega)) (nf_one (x := 3) (by decide) (by decide)) (by omega) 4 (by omega)).mono ?_
  rintro e w1 ⟨ha1, hb1q⟩
  obtain ⟨p1, m1, y1, rfl, ho1, hn1, hm1⟩ := ha1.ok ((nf_one (x := 3 ^ 4) (by decide) (by decide)).lim.1 (by simp))
  obtain rfl : y1 = [81] := hn1.inj B64_one (nf_one (x := 81) (by decide) (by decide))
  have hb1 := Below.on (below1 w _) hb1q
  have A1 : Hid (At w1 p1 m1 m1 [81]) := ho1.at_ hm1
  have H1 : Hid (Scr w1 P N C its) := H.out.below hb1
  clear H ha1 ho1 hn1 hb1q
  go_wp2_with fail
  rw [show Value.int IntKind.i64 0 = .int .i64 ((0 : Nat) : Int) from rfl]
  refine (pow_any (At.empty w1 none 0 (by decide)) nf_nil (by omega) 0 (by omega)).mono ?_
  rintro e w2 ⟨ha2, hb2⟩
  obtain ⟨p2, m2, y2, rfl, ho2, hn2, hm2⟩ := ha2.ok (by rw [Nat.pow_zero]; exact LIM_one)
  obtain rfl : y2 = [1] := hn2.inj B64_one (nf_one (x := 1) (by decide) (by decide))
  have A2 : Hid (At w2 p2 m2 m2 [1]) := ho2.at_ hm2
  have A12 : Hid (At w2 p1 m1 m1 [81]) := A1.out.below hb2
  have H2 : Hid (Scr w2 P N C its) := H1.out.below hb2
  have hbw2 := Below.on hb1 hb2
  clear H1 ha2 ho2 hn2 hb1 hb2 A1
  go_wp2_with fail
  refine (told_t (A12.out.alloc _) (lit_at w2 _ [81] 1 rfl rfl (dig1 (by decide)) (by omega))).mono ?_
  rintro e w3 ⟨rfl, hb3⟩
  have hb3' := Below.on (below1 w2 _) hb3
  have A23 : Hid (At w3 p2 m2 m2 [1]) := A2.out.below hb3'
  have H3 : Hid (Scr w3 P N C its) := H2.out.below hb3'
  have hbw3 := Below.on hbw2 hb3'
  clear H2 A2 A12 hb3 hb3' hbw2
  go_wp2_with fail
  refine (told_t (A23.out.alloc _) (lit_at w3 _ [1] 1 rfl rfl (dig1 (by decide)) (by omega))).mono ?_
  rintro e w4 ⟨rfl, hb4⟩
  have hb4' := Below.on (below1 w3 _) hb4
  have H4 : Hid (Scr w4 P N C its) := H3.out.below hb4'
  have hbw4 := Below.on hbw3 hb4'
  clear H3 A23 hb4 hb4' hbw3
  go_wp2_with fail
  refine (all33 H4.out).mono ?_
  rintro e w5 ⟨rfl, hb5⟩
  have hbw := Below.on hbw4 hb5
  clear hb5 hbw4
  go_wp2_with fail
  go_ret
  exact ⟨rfl, hbw⟩
end Go.Proofs.Ytdkbfffpnpjpiaa
