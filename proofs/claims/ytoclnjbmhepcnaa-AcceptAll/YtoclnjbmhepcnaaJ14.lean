import Derived.Laws.OwnMore
import Derived.Maps.AppendAt
import Derived.Deep.AppendLies
import Derived.Deep.LoopGhost
import Derived.Test.YtoclnjbmhepcnaaJ13
import Derived.Test.YtoclnjbmhepcnaaCopied
import Derived.Test.YtoclnjbmhepcnaaOpen
import Derived.Deep.Fields
import Derived.Deep.Slices
namespace Go.Proofs.Ytoclnjbmhepcnaa
open Go.RowKit Go.Shelf
set_option maxRecDepth 20000
set_option maxHeartbeats 0
structure Op25 where
  h : Nat
  l : Nat
  e : Int
structure Scr25 (w : World) (P : Option Addr) (N C : Nat) (its : List Op25) : Prop where
  len : its.length = N
  cap : N ≤ C
  big : C ≤ maxLen
  ats : ∀ t ∈ its, t.h < B64 ∧ t.l < B64
  cells : N = 0 ∨ ∃ g off, P = some ⟨g, off, none⟩ ∧ ∀ i (h : i < its.length), w.cell? ⟨g, off + i * 3, none⟩ = some (U its[i].h) ∧ w.cell? ⟨g, off + i * 3 + 1, none⟩ = some (U its[i].l) ∧ w.cell? ⟨g, off + i * 3 + 2, none⟩ = some (.int .i64 its[i].e)
theorem Scr25.below {w w' : World} {P : Option Addr} {N C : Nat} {its : List Op25} (h : Scr25 w P N C its) (hb : Below w.heap.size w w') : Scr25 w' P N C its := by
  refine ⟨h.len, h.cap, h.big, h.ats, ?_⟩
  rcases h.cells with h0 | ⟨g, off, hP, hc⟩
  · exact .inl h0
  · refine .inr ⟨g, off, hP, fun i hi => ?_⟩
    obtain ⟨h0, h1, h2⟩ := hc i hi
    have hl : g < w.heap.size := World.block_lt_of_cell? w _ h0
    exact ⟨(hb.cell (p := ⟨g, off + i * 3, none⟩) hl).trans h0, (hb.cell (p := ⟨g, off + i * 3 + 1, none⟩) hl).trans h1, (hb.cell (p := ⟨g, off + i * 3 + 2, none⟩) hl).trans h2⟩
def cellsB (bs : List Bool) : List Value := bs.map fun b => .bool b
structure OwB (w : World) (hB : Nat) (lv : Value) (k : Nat) (es : List Bool) : Prop where
  row : w.ownsRow hB 4 1 lv k (cellsB es)
theorem OwB.below {w w' : World} {hB k : Nat} {lv : Value} {es : List Bool} (h : OwB w hB lv k es) (hb : Below w.heap.size w w') : OwB w' hB lv k es := by
  refine ⟨⟨h.row.1, ?_⟩⟩
  rcases h.row.2 with h2 | ⟨g, cap, cur, h2, h3, h4, h5⟩
  · exact .inl h2
  · have hg : g < w.heap.size := by
      rcases Nat.lt_or_ge g w.heap.size with h6 | h6
      · exact h6
      · rw [Array.getElem?_eq_none h6] at h4; cases h4
    exact .inr ⟨g, cap, cur, h2, h3, (hb.block _ hg).trans h4, h5⟩
theorem OwB.cells {w : World} {hB k : Nat} {lv : Value} {es : List Bool} (h : OwB w hB lv k es) : ∃ p cap, lv = .slice p k cap ∧ k ≤ cap ∧ ∀ j, j < k → ∃ g, p = some ⟨g, 0, none⟩ ∧ w.cell? ⟨g, j, none⟩ = some (.bool (es.getD j false)) := by
  rcases h.row.2 with ⟨h1, h2⟩ | ⟨g, cap, cur, h1, h2, h3, h4, h6⟩
  · exact ⟨none, 0, by rw [h1, h2], by omega, fun j hj => by omega⟩
  · refine ⟨_, cap, h1, by omega, fun j hj => ⟨g, rfl, ?_⟩⟩
    have h5 := h.row
    rw [h1] at h5
    rw [h5.cellAt j (by omega)]
    have hl : es.length = k := by have := h.row.1; unfold cellsB at this; rw [List.length_map] at this; omega
    unfold cellsB
    rw [List.getElem?_map, List.getElem?_eq_getElem (by omega), List.getD_eq_getElem?_getD, List.getElem?_eq_getElem (by omega)]
    rfl
theorem OwB.lt {w : World} {hB k : Nat} {lv : Value} {es : List Bool} (h : OwB w hB lv k es) : ∀ b, lv.ownBlock = some b → hB ≤ b ∧ b < w.heap.size := h.row.lt
def kN (its : List Op25) (k : Nat) : List Nat := (its.take k).map fun t => accN t.h t.l t.e
def kB (its : List Op25) (k : Nat) : List Bool := (its.take k).map fun t => accB t.h t.l t.e
theorem kN_succ {its : List Op25} {k : Nat} (h : k < its.length) : kN its (k + 1) = kN its k ++ [accN its[k].h its[k].l its[k].e] := by
  unfold kN
  rw [List.take_succ_eq_append_getElem h, List.map_append]
  rfl
theorem kB_succ {its : List Op25} {k : Nat} (h : k < its.length) : kB its (k + 1) = kB its k ++ [accB its[k].h its[k].l its[k].e] := by
  unfold kB
  rw [List.take_succ_eq_append_getElem h, List.map_append]
  rfl
theorem kN_get {its : List Op25} {k : Nat} (h : k < its.length) : (kN its its.length).getD k 0 = accN its[k].h its[k].l its[k].e := by
  unfold kN
  rw [List.take_length, List.getD_eq_getElem?_getD, List.getElem?_map, List.getElem?_eq_getElem h]
  rfl
theorem kB_get {its : List Op25} {k : Nat} (h : k < its.length) : (kB its its.length).getD k false = accB its[k].h its[k].l its[k].e := by
  unfold kB
  rw [List.take_length, List.getD_eq_getElem?_getD, List.getElem?_map, List.getElem?_eq_getElem h]
  rfl
structure O3 (w : World) (g : Nat) (a b c : Value) : Prop where
  c0 : w.cell? ⟨g, 0, none⟩ = some a
  c1 : w.cell? ⟨g, 1, none⟩ = some b
  c2 : w.cell? ⟨g, 2, none⟩ = some c
theorem O3.below {w w' : World} {g : Nat} {a b c : Value} (h : O3 w g a b c) (hb : Below w.heap.size w w') : O3 w' g a b c := by
  have hl : g < w.heap.size := World.block_lt_of_cell? w _ h.c0
  exact ⟨(hb.cell (p := ⟨g, 0, none⟩) hl).trans h.c0, (hb.cell (p := ⟨g, 1, none⟩) hl).trans h.c1, (hb.cell (p := ⟨g, 2, none⟩) hl).trans h.c2⟩
structure Kc (w : World) (gK gS j rr : Nat) (bb : Bool) : Prop where
  a : w.cell? ⟨gK, j, none⟩ = some (U rr)
  b : w.cell? ⟨gS, j, none⟩ = some (.bool bb)
theorem Kc.below {w w' : World} {gK gS j rr : Nat} {bb : Bool} (h : Kc w gK gS j rr bb) (hb : Below w.heap.size w w') : Kc w' gK gS j rr bb :=
  ⟨(hb.cell (p := ⟨gK, j, none⟩) (World.block_lt_of_cell? w _ h.a)).trans h.a, (hb.cell (p := ⟨gS, j, none⟩) (World.block_lt_of_cell? w _ h.b)).trans h.b⟩
structure Kq (w : World) (pK pS : Option Addr) (k : Nat) (its : List Op25) : Prop where
  kept : ∀ j, j < k → ∃ g, pK = some ⟨g, 0, none⟩ ∧ w.cell? ⟨g, j, none⟩ = some (U ((kN its k).getD j 0))
  sure : ∀ j, j < k → ∃ g, pS = some ⟨g, 0, none⟩ ∧ w.cell? ⟨g, j, none⟩ = some (.bool ((kB its k).getD j false))
theorem Kq.below {w w' : World} {pK pS : Option Addr} {k : Nat} {its : List Op25} (h : Kq w pK pS k its) (hb : Below w.heap.size w w') : Kq w' pK pS k its :=
  ⟨fun j hj => by obtain ⟨g, h1, h2⟩ := h.kept j hj; exact ⟨g, h1, (hb.cell (p := ⟨g, j, none⟩) (World.block_lt_of_cell? w _ h2)).trans h2⟩, fun j hj => by obtain ⟨g, h1, h2⟩ := h.sure j hj; exact ⟨g, h1, (hb.cell (p := ⟨g, j, none⟩) (World.block_lt_of_cell? w _ h2)).trans h2⟩⟩
def Ap (a b : Value) : Prop := ∀ g, a.ownBlock = some g → b.ownBlock ≠ some g
theorem ap_nil : Ap (.slice none 0 0) (.slice none 0 0) := fun g h => by simp [Value.ownBlock] at h
theorem ap_ne {a b : Value} (h : Ap a b) : b.ownBlock = none ∨ b.ownBlock ≠ a.ownBlock := by
  cases hb : b.ownBlock with
  | none => exact .inl rfl
  | some g => exact .inr fun h1 => h g h1.symm hb
theorem ap_ne2 {a b c : Value} {n : Nat} (h : Ap a b) (hc : c.ownBlock = a.ownBlock ∨ c.ownBlock = some n) (hb : ∀ g, b.ownBlock = some g → g < n) : c.ownBlock = none ∨ c.ownBlock ≠ b.ownBlock := by
  rcases hc with h1 | h1
  · rw [h1]
    cases ha : a.ownBlock with
    | none => exact .inl rfl
    | some g => exact .inr fun h2 => h g ha h2.symm
  · rw [h1]
    refine .inr fun h2 => ?_
    have := hb n h2.symm
    omega
theorem ap_step {a b c d : Value} {n m : Nat} (h : Ap a b) (hc : c.ownBlock = a.ownBlock ∨ c.ownBlock = some n) (hd : d.ownBlock = b.ownBlock ∨ d.ownBlock = some m) (hb : ∀ g, b.ownBlock = some g → g < n) (hm : ∀ g, c.ownBlock = some g → g < m) : Ap c d := by
  intro g h1 h2
  rcases hd with h3 | h3
  · rw [h3] at h2
    rcases hc with h4 | h4
    · rw [h4] at h1; exact h g h1 h2
    · rw [h4] at h1
      have h5 := hb g h2
      cases h1
      omega
  · rw [h3] at h2
    cases h2
    have := hm m h1
    omega
theorem cell1a (w : World) (ty : TypeId) (a : Value) : ∀ j u, [a][j]? = some u → (w.alloc (.cells #[a] ty)).cell? ((⟨w.heap.size, 0, none⟩ : Addr).add j) = some u := by
  intro j u hj
  match j, hj with
  | 0, hj => simp at hj; subst hj; show World.cell? _ ⟨w.heap.size, 0, none⟩ = _; go_simp
  | k + 1, hj => simp at hj
theorem wr_next {k : Nat} (h : k ≤ 17592186044416) : wrap64 ((k : Int) + 1) = ((k + 1 : Nat) : Int) ∧ IntKind.i64.wrap ((k : Int) + 1) = ((k + 1 : Nat) : Int) := by
  constructor
  · simp only [wrap64]; omega
  · rw [IntKind.wrap_i64]; omega
theorem Try.infoBl : (Try.prog.info? 4).map (fun i => (i.zero, i.size, i.bytes)) = some (some (.bool false), 1, 1) := by kernel_rfl
theorem acceptAll_w {p : Option Addr} {N C : Nat} {its : List Op25} {w : World} (h : Scr25 w p N C its) (hn : N ≤ 17592186044416) :
    Calls Try.prog 8 #[.slice p N C] w fun en w' => en = .returned (.bool true) ∧ Below w.heap.size w w' := by
  have A : Hid (Scr25 w p N C its) := h
  have HN : Hid (its.length = N ∧ N ≤ 17592186044416) := ⟨h.len, hn⟩
  have hbw : Below w.heap.size w w := Below.refl _ _
  have cap := h.cap; have big := h.big
  unfold maxLen at big
  clear h hn
  go_enter Try.func8, Try.ntmps8
  go_wp2_with fail
  refine (awake25 _).mono ?_
  rintro e v1 ⟨rfl, hb1⟩
  replace hbw := Below.on hbw hb1
  clear hb1
  go_wp2_with fail
  obtain ⟨hB, hhB⟩ : ∃ hB, hB = v1.heap.size := ⟨_, rfl⟩
  have HHB : Hid (w.heap.size ≤ hB) := by rw [hhB]; exact hbw.size
  obtain ⟨i0, hi, hz0, hz1, hz2⟩ := info_parts Try.infoU64
  obtain ⟨i9, hi9, hy0, hy1, hy2⟩ := info_parts Try.infoBl
  go_loopg [3, 4, 17] N (fun gk lk ls iv wr => ∃ k : Nat, k + gk = N ∧ iv = .int .i64 k ∧ OwR wr hB lk k (kN its k) ∧ OwB wr hB ls k (kB its k) ∧ Ap lk ls ∧ hB ≤ wr.heap.size ∧ Below w.heap.size w wr)
  case atStart => exact ⟨0, by omega, rfl, ⟨World.ownsRow_nil _ _ _ _⟩, ⟨World.ownsRow_nil _ _ _ _⟩, ap_nil, by omega, hbw⟩
  case round =>
    clear hbw hhB
    obtain ⟨k, hkg, rfl, hown, hobn, hap, hhb, hbw⟩ := hrel
    have OW : Hid (OwR wr hB u3 k (kN its k)) := hown
    have OB : Hid (OwB wr hB u4 k (kB its k)) := hobn
    have HAP : Hid (Ap u3 u4 ∧ hB ≤ wr.heap.size) := ⟨hap, hhb⟩
    clear hown hobn hap hhb
    cases gk with
    | zero =>
      obtain rfl : k = N := by omega
      have hnk : ¬ (k : Int) < (k : Int) := by omega
      go_wp2_with fail
      obtain ⟨pK, cK, hvK, hcK⟩ := OW.out.cells
      obtain ⟨pS, cS, hvS, hlS, hcS⟩ := OB.out.cells
      subst hvK hvS
      have hlK : k ≤ cK := OwR.cap OW.out
      have KQ : Hid (Kq wr pK pS k its) := ⟨hcK, hcS⟩
      clear hcK hcS HAP
      clear OW
      clear OB
      have HB0 : Hid (Below w.heap.size w wr) := hbw
      clear hbw
      obtain ⟨wq, hwq⟩ : ∃ wq, wq = wr := ⟨_, rfl⟩
      subst hwq
      go_loopg [42] k (fun gk iv wr => ∃ j : Nat, j + gk = k ∧ iv = .int .i64 j ∧ Kq wr pK pS k its ∧ Below w.heap.size w wr)
      case atStart => exact ⟨0, by omega, rfl, KQ.out, HB0.out⟩
      case round =>
        clear KQ HB0
        obtain ⟨j, hjg, rfl, kq, hbw⟩ := hrel
        have KQ : Hid (Kq wr pK pS k its) := kq
        clear kq
        cases gk with
        | zero =>
          obtain rfl : j = k := by omega
          have hnk : ¬ (j : Int) < (j : Int) := by omega
          go_wp2_with fail
          go_ret
          exact ⟨rfl, hbw⟩
        | succ gg =>
          have hki : j < its.length := by rw [HN.out.1]; omega
          have HR := A.out.below hbw
          obtain ⟨g, off, rfl, hc⟩ := HR.cells.resolve_left (by omega)
          obtain ⟨e0, e1, e2⟩ := hc j hki
          obtain ⟨hb9, hb8⟩ := HR.ats its[j] (List.getElem_mem hki)
          have hkk : (j : Int) < (k : Int) := by omega
          have HBB : Hid (j + (gg + 1) = k ∧ k ≤ C ∧ C ≤ 9223372036854775807) := ⟨hjg, cap, big⟩
          obtain ⟨gK, rfl, q1⟩ := KQ.out.kept j (by omega)
          obtain ⟨gS, rfl, q2⟩ := KQ.out.sure j (by omega)
          have hNk : k = its.length := HN.out.1.symm
          rw [hNk, kN_get hki] at q1
          rw [hNk, kB_get hki] at q2
          clear hc HR hNk
          generalize its[j].h = th at *
          generalize its[j].l = tl at *
          generalize its[j].e = te at *
          have HA1 := ask_ok th tl (by rw [B64_eq] at hb9; exact hb9) (by rw [B64_eq] at hb8; exact hb8) te
          have HA2 := acceptSound_w th tl (by rw [B64_eq] at hb9; exact hb9) (by rw [B64_eq] at hb8; exact hb8) te
          have HA3 := acceptMust_w th tl (by rw [B64_eq] at hb9; exact hb9) (by rw [B64_eq] at hb8; exact hb8) te
          generalize accN th tl te = rr at *
          generalize accB th tl te = bb at *
          have HW : Hid (wrap64 ((j : Int) + 1) = ((j + 1 : Nat) : Int) ∧ IntKind.i64.wrap ((j : Int) + 1) = ((j + 1 : Nat) : Int)) := wr_next (by have h1 := HN.out.2; have h2 := HBB.out.1; omega)
          have Q12 : Hid (wr.cell? ⟨gK, j, none⟩ = some (U rr) ∧ wr.cell? ⟨gS, j, none⟩ = some (.bool bb)) := ⟨q1, q2⟩
          clear q1 q2
          go_wp2_with fail
          have hO3 : O3 (wr.alloc (.cells #[U th, U tl, .int .i64 te] 34)) wr.heap.size (U th) (U tl) (.int .i64 te) := ⟨by go_simp, by go_simp, by go_simp⟩
          have hb1 : Below wr.heap.size wr (wr.alloc (.cells #[U th, U tl, .int .i64 te] 34)) := below1 wr _
          generalize wr.alloc (.cells #[U th, U tl, .int .i64 te] 34) = W1 at *
          obtain ⟨go, hgo⟩ : ∃ go, go = wr.heap.size := ⟨_, rfl⟩
          rw [← hgo] at hO3
          rw [← hgo]
          clear e0 e1 e2 hgo
          have Q12' : Hid (Kc wr gK gS j rr bb) := ⟨Q12.out.1, Q12.out.2⟩
          clear Q12
          have Q12 := Q12'
          clear Q12'
          replace KQ : Hid (Kq W1 (some ⟨gK, 0, none⟩) (some ⟨gS, 0, none⟩) k its) := KQ.out.below hb1
          replace Q12 : Hid (Kc W1 gK gS j rr bb) := Q12.out.below hb1
          replace hbw := Below.on hbw hb1
          clear hb1
          have XO : Hid (O3 W1 go (U th) (U tl) (.int .i64 te)) := hO3
          clear hO3
          refine (HA1 _).mono ?_
          rintro e v2 ⟨rfl, hb2⟩
          replace KQ : Hid (Kq v2 (some ⟨gK, 0, none⟩) (some ⟨gS, 0, none⟩) k its) := KQ.out.below hb2
          replace Q12 : Hid (Kc v2 gK gS j rr bb) := Q12.out.below hb2
          replace XO : Hid (O3 v2 go (U th) (U tl) (.int .i64 te)) := XO.out.below hb2
          replace hbw := Below.on hbw hb2
          clear hb2
          obtain ⟨o0, o1, o2⟩ := XO.out
          obtain ⟨q1, q2⟩ := Q12.out
          have hjk : (j : Int) < (k : Int) := hkk
          go_wp2_with fail
          clear o0 o1 o2 q1 q2
          refine (HA2 _).mono ?_
          rintro e v3 ⟨rfl, hb3⟩
          replace KQ : Hid (Kq v3 (some ⟨gK, 0, none⟩) (some ⟨gS, 0, none⟩) k its) := KQ.out.below hb3
          replace Q12 : Hid (Kc v3 gK gS j rr bb) := Q12.out.below hb3
          replace XO : Hid (O3 v3 go (U th) (U tl) (.int .i64 te)) := XO.out.below hb3
          replace hbw := Below.on hbw hb3
          clear hb3
          obtain ⟨o0, o1, o2⟩ := XO.out
          go_wp2_with fail
          clear o0 o1 o2
          refine (HA3 _).mono ?_
          rintro e v4 ⟨rfl, hb4⟩
          replace KQ : Hid (Kq v4 (some ⟨gK, 0, none⟩) (some ⟨gS, 0, none⟩) k its) := KQ.out.below hb4
          replace Q12 : Hid (Kc v4 gK gS j rr bb) := Q12.out.below hb4
          replace XO : Hid (O3 v4 go (U th) (U tl) (.int .i64 te)) := XO.out.below hb4
          replace hbw := Below.on hbw hb4
          clear hb4
          obtain ⟨w3, w4⟩ := HW.out
          go_wp2_with fail
          go_roundg gg
          case measure => omega
          case rel => exact ⟨j + 1, by omega, by go_num, KQ.out, hbw⟩
    | succ gg =>
      have hki : k < its.length := by rw [HN.out.1]; omega
      have HR := A.out.below hbw
      obtain ⟨g, off, rfl, hc⟩ := HR.cells.resolve_left (by omega)
      obtain ⟨e0, e1, e2⟩ := hc k hki
      obtain ⟨hb9, hb8⟩ := HR.ats its[k] (List.getElem_mem hki)
      have hkk : (k : Int) < (N : Int) := by omega
      have hlt : g < wr.heap.size := World.block_lt_of_cell? wr _ e0
      have HBB : Hid (k + (gg + 1) = N ∧ N ≤ C ∧ C ≤ 9223372036854775807) := ⟨hkg, cap, big⟩
      have HT : Hid (kN its (k + 1) = kN its k ++ [accN its[k].h its[k].l its[k].e] ∧ kB its (k + 1) = kB its k ++ [accB its[k].h its[k].l its[k].e]) := ⟨kN_succ hki, kB_succ hki⟩
      clear hc HR
      generalize its[k].h = th at *
      generalize its[k].l = tl at *
      generalize its[k].e = te at *
      have HA1 := ask_ok th tl (by rw [B64_eq] at hb9; exact hb9) (by rw [B64_eq] at hb8; exact hb8) te
      generalize accN th tl te = rr at *
      generalize accB th tl te = bb at *
      have HW : Hid (wrap64 ((k : Int) + 1) = ((k + 1 : Nat) : Int) ∧ IntKind.i64.wrap ((k : Int) + 1) = ((k + 1 : Nat) : Int)) := wr_next (by have h1 := HN.out.2; have h2 := HBB.out.1; omega)
      go_wp2_with fail
      obtain ⟨W1, hW1⟩ : ∃ W1, W1 = wr.alloc (.cells #[.int .u64 (th : Int), .int .u64 (tl : Int), .int .i64 te] 34) := ⟨_, rfl⟩
      have hb1 : Below wr.heap.size wr W1 := by rw [hW1]; exact below1 wr _
      rw [← hW1]
      clear hW1 e0 e1 e2
      have HSZ1 : Hid (hB ≤ W1.heap.size) := Nat.le_trans HAP.out.2 hb1.size
      replace OW : Hid (OwR W1 hB u3 k (kN its k)) := OW.out.below hb1
      replace OB : Hid (OwB W1 hB u4 k (kB its k)) := OB.out.below hb1
      replace hbw := Below.on hbw hb1
      clear hb1
      refine (HA1 _).mono ?_
      rintro e9 v2 ⟨rfl, hb2⟩
      have HSZ2 : Hid (hB ≤ v2.heap.size) := Nat.le_trans HSZ1.out hb2.size
      replace OW : Hid (OwR v2 hB u3 k (kN its k)) := OW.out.below hb2
      replace OB : Hid (OwB v2 hB u4 k (kB its k)) := OB.out.below hb2
      replace hbw := Below.on hbw hb2
      clear hb2
      have hb3 : Below v2.heap.size v2 (v2.alloc (.cells #[.int .u64 (rr : Int)] 22)) := below1 v2 _
      have OWA : Hid ((v2.alloc (.cells #[.int .u64 (rr : Int)] 22)).ownsRow hB 22 1 u3 k (cellsU (kN its k))) := OW.out.row.alloc _
      have OBA : Hid ((v2.alloc (.cells #[.int .u64 (rr : Int)] 22)).ownsRow hB 4 1 u4 k (cellsB (kB its k))) := OB.out.row.alloc _
      have hbwa := Below.on hbw hb3
      have HSZ : Hid (hB ≤ (v2.alloc (.cells #[.int .u64 (rr : Int)] 22)).heap.size ∧ k + 1 ≤ 17592186044416) := ⟨by have := HSZ2.out; simp; omega, by have := HN.out.2; have := HBB.out.1; omega⟩
      have HBK : Hid (∀ b, u4.ownBlock = some b → hB ≤ b ∧ b < v2.heap.size) := OB.out.lt
      have HBK3 : Hid (∀ b, u3.ownBlock = some b → hB ≤ b ∧ b < v2.heap.size) := OW.out.lt
      have HNE : Hid (u4.ownBlock = none ∨ u4.ownBlock ≠ u3.ownBlock) := ap_ne HAP.out.1
      clear HA1
      go_wp2_with (at_builtin; first | (refine wpList_append_own_at _ rfl _ _ 31 rfl hB 22 i0 (.int .u64 0) 1 8 Try.underlying31 hi hz0 hz1 hz2 rfl (by decide) _ _ _ rfl OWA.out ⟨v2.heap.size, 0, none⟩ 1 1 [.int .u64 (rr : Int)] rfl rfl (cell1a _ _ _) (by intro u hu; simp only [List.mem_cons, List.not_mem_nil, or_false] at hu; rcases hu with rfl; rfl) (by have := HSZ.out.2; unfold maxLen; omega) (by have := HSZ.out.2; omega) HSZ.out.1 ?_; intro v6 w6 hown6 hgr6 hnil6 hat6; have OB6 := Hid.mk9 (OBA.out.kept hgr6 HNE.out); have HG6 := Hid.mk9 hgr6; have HO6 := Hid.mk9 hown6; have HA6 := Hid.mk9 hat6; have HS6 := Hid.mk9 (Nat.le_trans HSZ.out.1 hgr6.size); clear hown6 hgr6 hnil6 hat6) | (refine wpList_append_own_at _ rfl _ _ 32 rfl hB 4 i9 (.bool false) 1 1 Try.underlying32 hi9 hy0 hy1 hy2 rfl (by decide) _ _ _ rfl (OB6.out.alloc _) ⟨w6.heap.size, 0, none⟩ 1 1 [.bool bb] rfl rfl (cell1a _ _ _) (by intro u hu; simp only [List.mem_cons, List.not_mem_nil, or_false] at hu; rcases hu with rfl; rfl) (by have := HSZ.out.2; unfold maxLen; omega) (by have := HSZ.out.2; omega) (by have := HS6.out; simp; omega) ?_; intro v7 w7 hown7 hgr7 hnil7 hat7; have HG7 := Hid.mk9 hgr7; have HO7 := Hid.mk9 hown7; have HA7 := Hid.mk9 hat7; clear hown7 hgr7 hnil7 hat7))
      have hN1 : (v2.alloc (.cells #[.int .u64 (rr : Int)] 22)).heap.size = v2.heap.size + 1 := by simp
      have hN2 : (w6.alloc (.cells #[.bool bb] 4)).heap.size = w6.heap.size + 1 := by simp
      have HBW6 : Hid (Below w.heap.size w w6) := hbwa.grown HG6.out hbwa.size fun b hb => Nat.le_trans HHB.out (HBK3.out b hb).1
      have HBWA : Hid (Below w.heap.size w (w6.alloc (.cells #[.bool bb] 4))) := Below.on HBW6.out (below1 w6 _)
      have HBW7 : Hid (Below w.heap.size w w7) := HBWA.out.grown HG7.out HBWA.out.size fun b hb => Nat.le_trans HHB.out (HBK.out b hb).1
      have L6 : Hid (∀ b, v6.ownBlock = some b → hB ≤ b ∧ b < w6.heap.size) := HO6.out.lt
      have HF6 : Hid (v6.ownBlock = none ∨ v6.ownBlock ≠ u4.ownBlock) := ap_ne2 HAP.out.1 HA6.out (fun b hb => by have := (HBK.out b hb).2; omega)
      have HS7 : Hid (hB ≤ w7.heap.size) := Nat.le_trans (Nat.le_trans HS6.out (by omega)) HG7.out.size
      have HAP7 : Hid (Ap v6 v7) := ap_step HAP.out.1 HA6.out HA7.out (fun b hb => by have := (HBK.out b hb).2; omega) (fun b hb => by have := (L6.out b hb).2; omega)
      clear hN1 hN2
      go_roundg gg
      case measure => omega
      case rel =>
        refine ⟨k + 1, by omega, by go_num, ⟨?_⟩, ⟨?_⟩, HAP7.out, HS7.out, HBW7.out⟩
        · rw [HT.out.1]
          have e0 : cellsU (kN its k ++ [rr]) = cellsU (kN its k) ++ [.int .u64 (rr : Int)] := by unfold cellsU; rw [List.map_append]; rfl
          rw [e0]; exact (HO6.out.alloc _).kept HG7.out HF6.out
        · rw [HT.out.2]
          have e0 : cellsB (kB its k ++ [bb]) = cellsB (kB its k) ++ [.bool bb] := by unfold cellsB; rw [List.map_append]; rfl
          rw [e0]; exact HO7.out
end Go.Proofs.Ytoclnjbmhepcnaa
namespace Go.Proofs.Ytoclnjbmhepcnaa
open Go.ChangeShapes Go.WideShapes Go.ChangeAt Go.RowKit Go.Deep
set_option maxRecDepth 20000
set_option maxHeartbeats 0
theorem open_fld_int {H : Type} {enc : TypeId × Value → H} {W : World} {v : Value} {n : Nat} {y : DataW H × List MemPlace} {t : TypeId} {k : IntKind} (ht : Try.prog.underlying t = some (.int k))
    (hf : DataW.trod enc Try.prog W 0 (fun _ => true) true n t [v] = some y) : ∃ z, v = .int k z ∧ (Lit.int k z).wf = true := by
  obtain ⟨z, hc, _, hw⟩ := DataW.trod_int ht hf
  simp at hc
  exact ⟨z, hc, hw⟩
theorem cellsOfOp25 : Try.prog.cellsOf 34 = 3 := by kernel_rfl
theorem oneCellOp25 {fs : Array Field} (h : Try.prog.underlying 34 = some (.struct fs)) : oneCellFields Try.prog fs = true := by
  have : (match Try.prog.underlying 34 with | some (.struct fs) => oneCellFields Try.prog fs | _ => false) = true := by kernel_rfl
  rw [h] at this
  exact this

theorem open_script25 {H : Type} {enc : TypeId × Value → H} {W : World} {a : Option Addr} {len cap : Nat} {d : DataW H} {ps : List MemPlace} {ts : List TypeId} {ds : List (DataW H)} {j : Nat}
    (h : DataW.Trod enc Try.prog W 0 (fun _ => true) true 30 (.slice a len cap) d ps) (hsz : (DataW.weightsEach Try.prog ts ds).all (· ≤ reachBytes) = true) (ht : ts[j]? = some 30) (hd : ds[j]? = some d) : ∃ its, Scr25 W a len cap its ∧ len ≤ 17592186044416 := by
  obtain ⟨fuel, hf⟩ := h
  rcases DataW.trod_slice Try.underlying30 hf with ⟨hcs, _⟩ | ⟨x, l, c, elems, rest, n, _, hcs, hx, hb, hl, hm, hlen, hel, _, _⟩
  · simp [Value.cells] at hcs
    obtain ⟨rfl, rfl, rfl⟩ := hcs
    exact ⟨[], ⟨rfl, Nat.le_refl _, by decide, fun t h => by simp at h, .inl rfl⟩, by omega⟩
  · simp [Value.cells] at hcs
    obtain ⟨rfl, rfl, rfl⟩ := hcs
    simp only [Prod.mk.injEq] at hx
    obtain ⟨rfl, _⟩ := hx
    have hs9 := sized_slice hsz ht hd Try.underlying30
    rw [show Try.prog.bytesOf 34 = 24 by kernel_rfl, List.length_map, List.length_map, hlen] at hs9
    simp only [reachBytes] at hs9
    obtain ⟨b, off, spot⟩ := x
    have each : ∀ i, i < len → ∃ t : Op25, (W.cell? ((⟨b, off, spot⟩ : Addr).add (i * 3 + 0)) = some (U t.h) ∧ W.cell? ((⟨b, off, spot⟩ : Addr).add (i * 3 + 1)) = some (U t.l) ∧
        W.cell? ((⟨b, off, spot⟩ : Addr).add (i * 3 + 2)) = some (.int .i64 t.e)) ∧ t.h < B64 ∧ t.l < B64 := by
      intro i hi
      have h1 := hel i hi
      have hie : i < elems.length := by omega
      rw [List.getElem?_eq_getElem hie, Option.bind_eq_some_iff] at h1
      obtain ⟨cs', h2, h3⟩ := h1
      rw [cellsOfOp25] at h2
      obtain ⟨_, hlen4, hcell⟩ := World.cells?_some h2
      obtain ⟨ys, k, _, hxy, _, hxl, hg⟩ := DataW.trod_struct Try.underlying34 h3
      have hone := oneCellOp25 Try.underlying34
      match ys, hxl, cs', hlen4 with
      | [y0, y1, y2], _, [v0, v1, v2], _ =>
        have g0 := hg 0 _ rfl
        have g1 := hg 1 _ rfl
        have g2 := hg 2 _ rfl
        rw [(hone_of hone 0 _ rfl).1, (hone_of hone 0 _ rfl).2] at g0
        rw [(hone_of hone 1 _ rfl).1, (hone_of hone 1 _ rfl).2] at g1
        rw [(hone_of hone 2 _ rfl).1, (hone_of hone 2 _ rfl).2] at g2
        have k0 : DataW.trod enc Try.prog W 0 (fun _ => true) true k 22 [v0] = some y0 := g0
        have k1 : DataW.trod enc Try.prog W 0 (fun _ => true) true k 22 [v1] = some y1 := g1
        have k2 : DataW.trod enc Try.prog W 0 (fun _ => true) true k 3 [v2] = some y2 := g2
        clear g0 g1 g2
        obtain ⟨z0, rfl, w0⟩ := open_fld_int Try.underlying22 k0
        obtain ⟨z1, rfl, w1⟩ := open_fld_int Try.underlying22 k1
        obtain ⟨z2, rfl, _⟩ := open_fld_int Try.underlying3 k2
        have b0 := wf_u64 w0
        have b1 := wf_u64 w1
        obtain ⟨m0, rfl⟩ := Int.eq_ofNat_of_zero_le b0.1
        obtain ⟨m1, rfl⟩ := Int.eq_ofNat_of_zero_le b1.1
        have hm0 : m0 < B64 := by rw [B64_eq]; omega
        have hm1 : m1 < B64 := by rw [B64_eq]; omega
        have e0 := hcell 0 (by omega)
        have e1 := hcell 1 (by omega)
        have e2 := hcell 2 (by omega)
        rw [add_add] at e0 e1 e2
        exact ⟨⟨m0, m1, z2⟩, ⟨e0, e1, e2⟩, hm0, hm1⟩
    have inh : Inhabited Op25 := ⟨⟨0, 0, 0⟩⟩
    obtain ⟨q, hq⟩ := choose_lt each
    refine ⟨(List.range len).map q, ⟨by simp, hl, hm, ?_, ?_⟩, by omega⟩
    · intro t ht
      obtain ⟨i, hi, rfl⟩ := List.mem_map.1 ht
      exact (hq i (List.mem_range.1 hi)).2
    · by_cases h0 : len = 0
      · exact .inl h0
      · have hs := (hq 0 (by omega)).1.1
        have hspot : spot = none := by simpa [Addr.add] using World.cell?_spot hs
        subst hspot
        have hadd : ∀ q : Nat, (⟨b, off, none⟩ : Addr).add q = ⟨b, off + q, none⟩ := by intro q; unfold Addr.add; split <;> simp_all
        refine .inr ⟨b, off, rfl, fun i hi => ?_⟩
        have hi' : i < len := by simpa using hi
        have h5 := (hq i hi').1
        simp only [hadd] at h5
        simpa [Nat.add_assoc] using h5
end Go.Proofs.Ytoclnjbmhepcnaa
