import Derived.Test.YtmlclpjimkjjeaaGreatDoorMem
import Derived.Test.YtmlclpjimkjjeaaGreatDoorOpenS
import Derived.Deep.Slices
import Derived.Test.YtmlclpjimkjjeaaGreatDoorSmall
import Derived.BigRegion
import Derived.Shelf.Spec.BitsCarry
import Derived.Shelf.Strconv.Itoa0
import Derived.Laws.ResultCell
import Derived.Shelf.Bits.Mul64
import Derived.Lib.SliceRun
import Derived.Sort.Row
import Derived.Deep.RegionWith
import Derived.Deep.DeepCutAuto
import Derived.Deep.LoopGhost
import Derived.Laws.Bits64b
namespace Go.Proofs.YtmlclpjimkjjeaaGreatDoor
open Go.RowKit
set_option maxRecDepth 20000
set_option maxHeartbeats 0
structure Op10 where
 k : Int
 sa : Bool
 pa : Option Addr
 na : Nat
 ca : Nat
 xa : List Nat
 ea : Int
 sb : Bool
 pb : Option Addr
 nb : Nat
 cb : Nat
 xb : List Nat
 eb : Int
 sm : Bool
 pm : Option Addr
 nm : Nat
 cm : Nat
 xm : List Nat
 nn : Int
structure Scr5 (w : World) (P : Option Addr) (N C : Nat) (its : List Op10) : Prop where
 len : its.length = N
 cap : N ≤ C
 big : C ≤ maxLen
 ats : ∀ t ∈ its, At w t.pa t.na t.ca t.xa ∧ At w t.pb t.nb t.cb t.xb ∧ At w t.pm t.nm t.cm t.xm ∧ t.na ≤ 17592186044416 ∧ t.nb ≤ 17592186044416 ∧ t.nm ≤ 17592186044416 ∧ -9223372036854775808 ≤ t.nn ∧ t.nn ≤ 9223372036854775807
 cells : N = 0 ∨ ∃ g off, P = some ⟨g, off, none⟩ ∧ ∀ i (h : i < its.length), w.cell? ⟨g, off + i * 10, none⟩ = some (.int .i64 its[i].k) ∧ w.cell? ⟨g, off + i * 10 + 1, none⟩ = some (.bool its[i].sa) ∧ w.cell? ⟨g, off + i * 10 + 2, none⟩ = some (.slice its[i].pa its[i].na its[i].ca) ∧ w.cell? ⟨g, off + i * 10 + 3, none⟩ = some (.int .i64 its[i].ea) ∧ w.cell? ⟨g, off + i * 10 + 4, none⟩ = some (.bool its[i].sb) ∧ w.cell? ⟨g, off + i * 10 + 5, none⟩ = some (.slice its[i].pb its[i].nb its[i].cb) ∧ w.cell? ⟨g, off + i * 10 + 6, none⟩ = some (.int .i64 its[i].eb) ∧ w.cell? ⟨g, off + i * 10 + 7, none⟩ = some (.bool its[i].sm) ∧ w.cell? ⟨g, off + i * 10 + 8, none⟩ = some (.slice its[i].pm its[i].nm its[i].cm) ∧ w.cell? ⟨g, off + i * 10 + 9, none⟩ = some (.int .i64 its[i].nn)
theorem Scr5.below {w w' : World} {P : Option Addr} {N C : Nat} {its : List Op10} (h : Scr5 w P N C its) (hb : Below w.heap.size w w') : Scr5 w' P N C its := by
  refine ⟨h.len, h.cap, h.big, fun t ht => ?_, ?_⟩
  · obtain ⟨h1, h2, h3, h4⟩ := h.ats t ht
    exact ⟨h1.below hb, h2.below hb, h3.below hb, h4⟩
  · rcases h.cells with h0 | ⟨g, off, hP, hc⟩
    · exact .inl h0
    · refine .inr ⟨g, off, hP, fun i hi => ?_⟩
      obtain ⟨h0, h1, h2, h3, h4, h5, h6, h7, h8, h9⟩ := hc i hi;have hl : g < w.heap.size := World.block_lt_of_cell? w _ h0
      exact ⟨(hb.cell (p := ⟨g, off + i * 10, none⟩) hl).trans h0, (hb.cell (p := ⟨g, off + i * 10 + 1, none⟩) hl).trans h1, (hb.cell (p := ⟨g, off + i * 10 + 2, none⟩) hl).trans h2, (hb.cell (p := ⟨g, off + i * 10 + 3, none⟩) hl).trans h3, (hb.cell (p := ⟨g, off + i * 10 + 4, none⟩) hl).trans h4, (hb.cell (p := ⟨g, off + i * 10 + 5, none⟩) hl).trans h5, (hb.cell (p := ⟨g, off + i * 10 + 6, none⟩) hl).trans h6, (hb.cell (p := ⟨g, off + i * 10 + 7, none⟩) hl).trans h7, (hb.cell (p := ⟨g, off + i * 10 + 8, none⟩) hl).trans h8, (hb.cell (p := ⟨g, off + i * 10 + 9, none⟩) hl).trans h9⟩
theorem Scr5.b {w w' : World} {P : Option Addr} {N C : Nat} {its : List Op10} (h : Hid (Scr5 w P N C its)) (hb : Below w.heap.size w w') : Hid (Scr5 w' P N C its) := Scr5.below h hb
end Go.Proofs.YtmlclpjimkjjeaaGreatDoor
namespace Go.Proofs.YtmlclpjimkjjeaaGreatDoor
open Go.ChangeShapes Go.WideShapes Go.ChangeAt Go.RowKit Go.Deep
set_option maxRecDepth 20000
set_option maxHeartbeats 0
theorem weightsAll_mem {H : Type} {P : Program} {e : TypeId} : ∀ {l : List (DataW H)} {d : DataW H}, d ∈ l → ∀ n ∈ d.weights P e, n ∈ DataW.weightsAll P e l
 | [], d, hd, n, hn => by simp at hd
 | d0 :: r, d, hd, n, hn => by
  simp only [DataW.weightsAll, List.mem_append]
  rcases List.mem_cons.1 hd with rfl | h
  ·exact .inl hn
  ·exact .inr (weightsAll_mem h n hn)
theorem sized_elem {H : Type} {P : Program} {ts : List TypeId} {ds : List (DataW H)} (h : (DataW.weightsEach P ts ds).all (· ≤ reachBytes) = true) {j : Nat} {t e : TypeId} {fs : Array Field} {parts : List (DataW H)} {elems spare : List (DataW H)}
  (ht : ts[j]? = some t) (hd : ds[j]? = some (.slice elems spare)) (hu : P.underlying t = some (.slice e)) (hm : DataW.agg parts ∈ elems) (he : P.underlying e = some (.struct fs)) :
  (DataW.weightsEach P (fs.toList.map (·.type)) parts).all (· ≤ reachBytes) = true := by
 rw [List.all_eq_true]
 intro n hn
 refine List.all_eq_true.1 h n (DataW.weights_mem_each ht hd n ?_)
 simp only [DataW.weights, hu, List.mem_cons, List.mem_append]
 exact .inr (.inl (weightsAll_mem hm n (by simpa [DataW.weights, he] using hn)))
theorem cellsOfOp5 : Tryz.prog.cellsOf 45 = 10 := by kernel_rfl
theorem cellsOfDy5 : Tryz.prog.cellsOf 27 = 3 := by kernel_rfl
theorem cellsOfInt5 : Tryz.prog.cellsOf 25 = 2 := by kernel_rfl
theorem cellsOfi5 : Tryz.prog.cellsOf 3 = 1 := by kernel_rfl
theorem oneCellInt5 {fs : Array Field} (h : Tryz.prog.underlying 25 = some (.struct fs)) : oneCellFields Tryz.prog fs = true := by
  have : (match Tryz.prog.underlying 25 with | some (.struct fs) => oneCellFields Tryz.prog fs | _ => false) = true := by kernel_rfl
  rw [h] at this
  exact this
theorem open_int5 {H : Type} {enc : TypeId × Value → H} {W : World} {k : Nat} {v0 v1 : Value} {y : DataW H × List MemPlace} {ts : List TypeId} {ds : List (DataW H)} {j : Nat}
  (h : DataW.trod enc Tryz.prog W 0 (fun _ => true) true k 25 [v0, v1] = some y) (hsz : (DataW.weightsEach Tryz.prog ts ds).all (· ≤ reachBytes) = true) (ht : ts[j]? = some 25) (hd : ds[j]? = some y.1) :
  ∃ s p n c xs, v0 = .bool s ∧ v1 = .slice p n c ∧ At W p n c xs ∧ n ≤ 17592186044416 := by
 have hone := oneCellInt5 Tryz.underlying25;obtain ⟨us, kx, _, hux, _, hul, hgx⟩ := DataW.trod_struct Tryz.underlying25 h
 match us, hul with
 | [a0, a1], _ =>
  have x0 := hgx 0 _ rfl;have x1 := hgx 1 _ rfl;rw [(hone_of hone 0 _ rfl).1, (hone_of hone 0 _ rfl).2] at x0;rw [(hone_of hone 1 _ rfl).1, (hone_of hone 1 _ rfl).2] at x1
  have q0 : DataW.trod enc Tryz.prog W 0 (fun _ => true) true kx 4 [v0] = some a0 := x0
  have q1 : DataW.trod enc Tryz.prog W 0 (fun _ => true) true kx 23 [v1] = some a1 := x1
  clear x0 x1;subst hux;have sfx := sized_fields hsz ht hd Tryz.underlying25;obtain ⟨s, rfl⟩ := open_fld_bool Tryz.underlying4 q0;obtain ⟨p, n, c, _, rfl, _⟩ := open_fld_at q1;obtain ⟨xs, A1, bl⟩ := open_at (a := p) (len := n) (cap := c) (d := a1.1) (ps := a1.2) ⟨kx, q1⟩ sfx (j := 1) rfl rfl
  exact ⟨s, p, n, c, xs, rfl, rfl, A1, bl⟩
theorem open_dy5 {H : Type} {enc : TypeId × Value → H} {W : World} {k : Nat} {v0 v1 v2 : Value} {y : DataW H × List MemPlace} {ts : List TypeId} {ds : List (DataW H)} {j : Nat}
  (h : DataW.trod enc Tryz.prog W 0 (fun _ => true) true k 27 [v0, v1, v2] = some y) (hsz : (DataW.weightsEach Tryz.prog ts ds).all (· ≤ reachBytes) = true) (ht : ts[j]? = some 27) (hd : ds[j]? = some y.1) :
  ∃ s p n c e xs, v0 = .bool s ∧ v1 = .slice p n c ∧ v2 = .int .i64 e ∧ At W p n c xs ∧ n ≤ 17592186044416 := by
 obtain ⟨us, kx, _, hux, _, hul, hgx⟩ := DataW.trod_struct Tryz.underlying27 h
 match us, hul with
 | [a0, a1], _ =>
  have k0 : DataW.trod enc Tryz.prog W 0 (fun _ => true) true kx 25 [v0, v1] = some a0 := by
   have g' : DataW.trod enc Tryz.prog W 0 (fun _ => true) true kx 25 (([v0, v1, v2].drop 0).take (Tryz.prog.cellsOf 25)) = some a0 := hgx 0 _ rfl
   rw [cellsOfInt5] at g'
   exact g'
  have k1 : DataW.trod enc Tryz.prog W 0 (fun _ => true) true kx 3 [v2] = some a1 := by
   have g' : DataW.trod enc Tryz.prog W 0 (fun _ => true) true kx 3 (([v0, v1, v2].drop 2).take (Tryz.prog.cellsOf 3)) = some a1 := hgx 1 _ rfl
   rw [cellsOfi5] at g'
   exact g'
  subst hux;have sfx := sized_fields hsz ht hd Tryz.underlying27;obtain ⟨e, rfl, _⟩ := open_fld_int Tryz.underlying3 k1;obtain ⟨s, p, n, c, xs, rfl, rfl, A1, bl⟩ := open_int5 k0 sfx (j := 0) rfl rfl
  exact ⟨s, p, n, c, e, xs, rfl, rfl, rfl, A1, bl⟩
theorem open_script5 {H : Type} {enc : TypeId × Value → H} {W : World} {a : Option Addr} {len cap : Nat} {d : DataW H} {ps : List MemPlace} {ts : List TypeId} {ds : List (DataW H)} {j : Nat}
  (h : DataW.Trod enc Tryz.prog W 0 (fun _ => true) true 22 (.slice a len cap) d ps) (hsz : (DataW.weightsEach Tryz.prog ts ds).all (· ≤ reachBytes) = true) (ht : ts[j]? = some 22) (hd : ds[j]? = some d) :
  ∃ its, Scr5 W a len cap its := by
 obtain ⟨fuel, hf⟩ := h
 rcases DataW.trod_slice Tryz.underlying22 hf with ⟨hcs, _⟩ | ⟨x, l, c, elems, rest, n, _, hcs, hx, hb, hl, hm, hlen, hel, _, _⟩
 ·simp [Value.cells] at hcs
  obtain ⟨rfl, rfl, rfl⟩ := hcs
  exact ⟨[], rfl, Nat.le_refl _, by decide, fun t h => by simp at h, .inl rfl⟩
 ·simp [Value.cells] at hcs
  obtain ⟨rfl, rfl, rfl⟩ := hcs
  simp only [Prod.mk.injEq] at hx
  obtain ⟨rfl, _⟩ := hx;obtain ⟨b, off, spot⟩ := x
  have each : ∀ i, i < len → ∃ t : Op10, (W.cell? ((⟨b, off, spot⟩ : Addr).add (i * 10 + 0)) = some (.int .i64 t.k) ∧ W.cell? ((⟨b, off, spot⟩ : Addr).add (i * 10 + 1)) = some (.bool t.sa) ∧ W.cell? ((⟨b, off, spot⟩ : Addr).add (i * 10 + 2)) = some (.slice t.pa t.na t.ca) ∧ W.cell? ((⟨b, off, spot⟩ : Addr).add (i * 10 + 3)) = some (.int .i64 t.ea) ∧ W.cell? ((⟨b, off, spot⟩ : Addr).add (i * 10 + 4)) = some (.bool t.sb) ∧ W.cell? ((⟨b, off, spot⟩ : Addr).add (i * 10 + 5)) = some (.slice t.pb t.nb t.cb) ∧ W.cell? ((⟨b, off, spot⟩ : Addr).add (i * 10 + 6)) = some (.int .i64 t.eb) ∧ W.cell? ((⟨b, off, spot⟩ : Addr).add (i * 10 + 7)) = some (.bool t.sm) ∧ W.cell? ((⟨b, off, spot⟩ : Addr).add (i * 10 + 8)) = some (.slice t.pm t.nm t.cm) ∧ W.cell? ((⟨b, off, spot⟩ : Addr).add (i * 10 + 9)) = some (.int .i64 t.nn)) ∧
    At W t.pa t.na t.ca t.xa ∧ At W t.pb t.nb t.cb t.xb ∧ At W t.pm t.nm t.cm t.xm ∧ t.na ≤ 17592186044416 ∧ t.nb ≤ 17592186044416 ∧ t.nm ≤ 17592186044416 ∧ -9223372036854775808 ≤ t.nn ∧ t.nn ≤ 9223372036854775807 := by
   intro i hi
   have h1 := hel i hi
   have hie : i < elems.length := by omega
   rw [List.getElem?_eq_getElem hie, Option.bind_eq_some_iff] at h1;obtain ⟨cs', h2, h3⟩ := h1;rw [cellsOfOp5] at h2;obtain ⟨_, hlenN, hcell⟩ := World.cells?_some h2;obtain ⟨ys, k, _, hxy, _, hxl, hg⟩ := DataW.trod_struct Tryz.underlying45 h3
   match ys, hxl, cs', hlenN with
   | [y0, y1, y2, y3, y4], _, [v0, v1, v2, v3, v4, v5, v6, v7, v8, v9], _ =>
    have sf := sized_elem hsz ht hd Tryz.underlying22 (parts := [y0.1, y1.1, y2.1, y3.1, y4.1]) (by
     have : elems[i].1 = DataW.agg [y0.1, y1.1, y2.1, y3.1, y4.1] := by rw [hxy]; rfl
     rw [← this]
     exact List.mem_map_of_mem (List.getElem_mem hie)) Tryz.underlying45
    have k0 : DataW.trod enc Tryz.prog W 0 (fun _ => true) true k 3 [v0] = some y0 := by
     have g' : DataW.trod enc Tryz.prog W 0 (fun _ => true) true k 3 (([v0, v1, v2, v3, v4, v5, v6, v7, v8, v9].drop 0).take (Tryz.prog.cellsOf 3)) = some y0 := hg 0 _ rfl
     rw [cellsOfi5] at g'
     exact g'
    have k1 : DataW.trod enc Tryz.prog W 0 (fun _ => true) true k 27 [v1, v2, v3] = some y1 := by
     have g' : DataW.trod enc Tryz.prog W 0 (fun _ => true) true k 27 (([v0, v1, v2, v3, v4, v5, v6, v7, v8, v9].drop 1).take (Tryz.prog.cellsOf 27)) = some y1 := hg 1 _ rfl
     rw [cellsOfDy5] at g'
     exact g'
    have k2 : DataW.trod enc Tryz.prog W 0 (fun _ => true) true k 27 [v4, v5, v6] = some y2 := by
     have g' : DataW.trod enc Tryz.prog W 0 (fun _ => true) true k 27 (([v0, v1, v2, v3, v4, v5, v6, v7, v8, v9].drop 4).take (Tryz.prog.cellsOf 27)) = some y2 := hg 2 _ rfl
     rw [cellsOfDy5] at g'
     exact g'
    have k3 : DataW.trod enc Tryz.prog W 0 (fun _ => true) true k 25 [v7, v8] = some y3 := by
     have g' : DataW.trod enc Tryz.prog W 0 (fun _ => true) true k 25 (([v0, v1, v2, v3, v4, v5, v6, v7, v8, v9].drop 7).take (Tryz.prog.cellsOf 25)) = some y3 := hg 3 _ rfl
     rw [cellsOfInt5] at g'
     exact g'
    have k4 : DataW.trod enc Tryz.prog W 0 (fun _ => true) true k 3 [v9] = some y4 := by
     have g' : DataW.trod enc Tryz.prog W 0 (fun _ => true) true k 3 (([v0, v1, v2, v3, v4, v5, v6, v7, v8, v9].drop 9).take (Tryz.prog.cellsOf 3)) = some y4 := hg 4 _ rfl
     rw [cellsOfi5] at g'
     exact g'
    obtain ⟨c0, rfl, _⟩ := open_fld_int Tryz.underlying3 k0;obtain ⟨c4, rfl, w4⟩ := open_fld_int Tryz.underlying3 k4;obtain ⟨sa, pa, na, ca, ea, xa, rfl, rfl, rfl, A1, bl1⟩ := open_dy5 k1 sf (j := 1) rfl rfl;obtain ⟨sb, pb, nb, cb, eb, xb, rfl, rfl, rfl, A2, bl2⟩ := open_dy5 k2 sf (j := 2) rfl rfl;obtain ⟨sm, pm, nm, cm, xm, rfl, rfl, A3, bl3⟩ := open_int5 k3 sf (j := 3) rfl rfl
    have e0 := hcell 0 (by omega)
    have e1 := hcell 1 (by omega)
    have e2 := hcell 2 (by omega)
    have e3 := hcell 3 (by omega)
    have e4 := hcell 4 (by omega)
    have e5 := hcell 5 (by omega)
    have e6 := hcell 6 (by omega)
    have e7 := hcell 7 (by omega)
    have e8 := hcell 8 (by omega)
    have e9 := hcell 9 (by omega)
    rw [add_add] at e0 e1 e2 e3 e4 e5 e6 e7 e8 e9
    exact ⟨⟨c0, sa, pa, na, ca, xa, ea, sb, pb, nb, cb, xb, eb, sm, pm, nm, cm, xm, c4⟩, ⟨e0, e1, e2, e3, e4, e5, e6, e7, e8, e9⟩, A1, A2, A3, bl1, bl2, bl3, bounds_i64 w4⟩
  have inh : Inhabited Op10 := ⟨⟨0, false, none, 0, 0, [], 0, false, none, 0, 0, [], 0, false, none, 0, 0, [], 0⟩⟩;obtain ⟨q, hq⟩ := choose_lt each
  refine ⟨(List.range len).map q, by simp, hl, hm, ?_, ?_⟩
  ·intro t ht
   obtain ⟨i, hi, rfl⟩ := List.mem_map.1 ht
   exact (hq i (List.mem_range.1 hi)).2
  ·by_cases h0 : len = 0
   ·exact .inl h0
   ·have hs := (hq 0 (by omega)).1.1
    have hspot : spot = none := by simpa [Addr.add] using World.cell?_spot hs
    subst hspot
    have hadd : ∀ q : Nat, (⟨b, off, none⟩ : Addr).add q = ⟨b, off + q, none⟩ := by intro q; unfold Addr.add; split <;> simp_all
    refine .inr ⟨b, off, rfl, fun i hi => ?_⟩
    have hi' : i < len := by simpa using hi
    have h5 := (hq i hi').1
    simp only [hadd] at h5
    simpa [Nat.add_assoc] using h5
end Go.Proofs.YtmlclpjimkjjeaaGreatDoor
namespace Go.Proofs.YtmlclpjimkjjeaaGreatDoor
open Go.RowKit
set_option maxRecDepth 20000
set_option maxHeartbeats 0
def cutOff (off n k : Nat) : Nat := if k = n then off else off + k
theorem cutOff_lt {off n k : Nat} (h : k < n) : cutOff off n k = off + k := if_neg (by omega)
theorem cutOff_eq {off n k : Nat} (h : k = n) : cutOff off n k = off := if_pos h

theorem ret_cut {v : Value} {g o o' m m' : Nat} (h : o = o') (hm : m = m') : Ending.returned (.tuple #[v, .slice (some ⟨g, o, none⟩) m m]) = .returned (.tuple #[v, .slice (some ⟨g, o', none⟩) m' m']) := by rw [h, hm]
theorem cut_row (g off n c k : Nat) (w : World) (hnc : n ≤ c) (hk : k ≤ n) :
  Calls Tryz.prog 119 #[.slice (some ⟨g, off, none⟩) n c, .int .i64 k] w fun e w' =>
   e = .returned (.tuple #[.slice (some ⟨g, off, none⟩) k k, .slice (some ⟨g, cutOff off n k, none⟩) (n - k) (n - k)]) ∧ ∃ r, w' = w.drewN r := by
 obtain ⟨o, ho⟩ := exq (cutOff off n k);rw [← ho]
 by_cases hkn : k = n
 ·have HO : Hid (o = off) := ho.trans (cutOff_eq hkn)
  subst hkn;clear ho
  go_enter Tryz.func119, Tryz.ntmps119
  go_wp2
  go_quiet (fail)
  go_wp2
  go_ret2
  exact ⟨ret_cut HO.out.symm (Nat.sub_self k).symm, _, rfl⟩
 ·have HO : Hid (o = off + k) := ho.trans (cutOff_lt (by omega))
  have hlt : k < n := by omega
  clear ho
  go_enter Tryz.func119, Tryz.ntmps119
  go_wp2
  go_quiet (fail)
  go_wp2
  go_ret2
  exact ⟨ret_cut HO.out.symm rfl, _, rfl⟩
theorem order_any (b : Bool) (w : World) : Calls Tryz.prog 129 #[.bool b] w fun e w' => e = .returned (.int .i64 (if b then -1 else 1)) ∧ w' = w := by
  cases b
  · go_enter Tryz.func129, Tryz.ntmps129
    go_wp2
    go_ret
    exact ⟨rfl, rfl⟩
  · go_enter Tryz.func129, Tryz.ntmps129
    go_wp2
    go_ret
    exact ⟨rfl, rfl⟩

theorem fitted_any {g n c : Nat} {xs : List Nat} {w : World} (h : At w (some ⟨g, 0, none⟩) n c xs) :
  Calls Tryz.prog 142 #[.slice (some ⟨g, 0, none⟩) n c] w fun e w' =>
   ((trimL xs).length ≤ 8192 ∧ (∃ p' m, e = .returned (.tuple #[.slice p' m m, .int .i64 0]) ∧ m = (trimL xs).length ∧ (m ≠ 0 → p' = some ⟨g, 0, none⟩)) ∧ w' = w) ∨
   (8192 < (trimL xs).length ∧ e = .returned (.tuple #[.slice none 0 0, .int .i64 5]) ∧ w' = w) := by
 go_enter Tryz.func142, Tryz.ntmps142
 go_wp2_with (go_at_call 91; refine (trim_any h).mono ?_; rintro e w' ⟨p', m, rfl, hm, hp, rfl⟩; have HM : Hid (m = (trimL xs).length) := hm; clear hm)
 ·go_ret2
  have := HM.out
  exact .inr ⟨by omega, rfl, rfl⟩
 ·go_ret2
  have := HM.out
  exact .inl ⟨by omega, ⟨_, _, rfl, this, hp⟩, rfl⟩
theorem add64_ex (x y c : Nat) (hx : x < B64) (hy : y < B64) (hc : c ≤ 1) : ∃ s d, (∀ w : World, (callFunc 152 #[U x, U y, U c]).run Tryz.prog w = .ok (.value (.tuple #[U s, U d])) w) ∧ x + y + c = s + B64 * d ∧ s < B64 ∧ d ≤ 1 := by
  refine ⟨(x + y + c) % 18446744073709551616, (x + y + c) / 18446744073709551616, fun w => ?_, ?_, ?_, ?_⟩
  · rw [run_callFunc_extern Tryz.func152 (by kernel_rfl) (by kernel_rfl) (by kernel_rfl) (e := add64Entry) (by kernel_rfl), run_add64 x y c (by omega) (by omega) (by omega) (by omega)]
    simp only [Result.andThen]
    congr 5 <;> omega
  · rw [B64_eq]; omega
  · rw [B64_eq]; omega
  · rw [B64_eq] at hx hy; omega

structure AddRel (w : World) (g off n : Nat) (zs ys : List Nat) (k cy : Nat) (dk : List Nat) (wr : World) : Prop where
 wrs : Wr g off n w wr
 row : Row wr g off n dk
 hi : dk.drop k = zs.drop k
 car : cy ≤ 1
 sum : valB B64 (dk.take k) + B64 ^ k * cy = valB B64 (zs.take k) + valB B64 (ys.take k)

theorem valB_take_any (b : Nat) (xs : List Nat) (k : Nat) : valB b (xs.take (k + 1)) = valB b (xs.take k) + b ^ k * xs.getD k 0 := by
  by_cases h : k < xs.length
  · exact valB_take_succ b xs k h
  · rw [List.take_of_length_le (by omega), List.take_of_length_le (by omega), List.getD_eq_getElem?_getD, List.getElem?_eq_none (by omega)]; simp
theorem drop_set_lt (dk : List Nat) (k y : Nat) : (dk.set k y).drop (k + 1) = dk.drop (k + 1) := by
  rw [List.drop_set]; simp
theorem take_set_succ (dk : List Nat) (k y : Nat) (hk : k < dk.length) : (dk.set k y).take (k + 1) = dk.take k ++ [y] := by
  rw [take_succ_getD _ k (by simpa using hk), getD_set dk k y k hk, if_pos rfl, List.take_set]
  congr 1
  rw [List.set_eq_of_length_le (by simp; omega)]
theorem drop_succ_of_drop {dk zs : List Nat} {k : Nat} (h : dk.drop k = zs.drop k) : dk.drop (k + 1) = zs.drop (k + 1) := by
  have := congrArg (List.drop 1) h;rw [List.drop_drop, List.drop_drop] at this
  exact this
theorem getD_of_drop {dk zs : List Nat} {k : Nat} (h : dk.drop k = zs.drop k) : dk.getD k 0 = zs.getD k 0 := by
  have := congrArg (fun l : List Nat => l[0]?) h
  simp only [List.getElem?_drop, Nat.add_zero] at this
  rw [List.getD_eq_getElem?_getD, List.getD_eq_getElem?_getD, this]

theorem AddRel.step {w : World} {g off n : Nat} {zs ys : List Nat} {k cy : Nat} {dk : List Nat} {wr : World} (h : AddRel w g off n zs ys k cy dk wr) (hk : k < n)
  {x y s d : Nat} (hx : x = dk.getD k 0) (hy : y = ys.getD k 0) (hs : x + y + cy = s + B64 * d) (hsl : s < B64) (hd : d ≤ 1) (q : Nat) :
  AddRel w g off n zs ys (k + 1) d (dk.set k s) ((wr.setCell ⟨g, off + k, none⟩ (U s)).drewN q) := by
 have hl := h.row.len
 refine ⟨(h.wrs.setCell (off + k) ⟨by omega, by omega⟩ _).drewN q, (h.row.set k s hk hsl).drewN q, ?_, hd, ?_⟩
 ·rw [drop_set_lt]; exact drop_succ_of_drop h.hi
 ·have hxz : x = zs.getD k 0 := hx.trans (getD_of_drop h.hi)
  rw [take_set_succ dk k s (by omega), valB_snoc, List.length_take, hl, Nat.min_eq_left (by omega), valB_take_any _ zs k, valB_take_any _ ys k, ← hxz, ← hy, Nat.pow_succ]
  have e1 := h.sum
  have e2 : B64 ^ k * (x + y + cy) = B64 ^ k * (s + B64 * d) := by rw [hs]
  rw [Nat.mul_add, Nat.mul_add, Nat.mul_add, ← Nat.mul_assoc] at e2
  omega
theorem AddRel.fin {w : World} {g off n : Nat} {zs ys : List Nat} {k cy : Nat} {dk : List Nat} {wr : World} (h : AddRel w g off n zs ys k cy dk wr) (hz : zs.length = n) (hy : ys.length ≤ k) (hk : k ≤ n) (hf : cy = 0 ∨ k = n) :
  valB B64 dk + B64 ^ n * cy = valB B64 zs + valB B64 ys := by
 have hl := h.row.len;have e1 := h.sum;rw [List.take_of_length_le hy] at e1
 rw [valB_split B64 dk k (by omega), valB_split B64 zs k (by omega), h.hi]
 rcases hf with rfl | rfl
 ·omega
 ·rw [List.drop_of_length_le (by omega)]; simp only [valB_nil]; omega

theorem ladd_any (g off n c : Nat) (zs : List Nat) (p : Option Addr) (m d : Nat) (ys : List Nat) (w : World) (hz : Row w g off n zs) (hnc : n ≤ c) (hbig : c ≤ 9223372036854775807)
  (ha : At w p m d ys) (hmn : m ≤ n) (hap : ∀ g2 off2, 0 < m → p = some ⟨g2, off2, none⟩ → g2 ≠ g ∨ off2 + m ≤ off ∨ off + n ≤ off2) :
  Calls Tryz.prog 141 #[.slice (some ⟨g, off, none⟩) n c, .slice p m d] w fun e w' =>
   ∃ cy zs', e = .returned (U cy) ∧ cy ≤ 1 ∧ Wr g off n w w' ∧ Row w' g off n zs' ∧ valB B64 zs' + B64 ^ n * cy = valB B64 zs + valB B64 ys := by
 have hl := hz.len; have al := ha.len; have acap := ha.cap; have abig := ha.big;unfold maxLen at abig
 go_enter Tryz.func141, Tryz.ntmps141
 go_wp2_with (go_at_call 119; refine (cut_row g off n c m _ hnc hmn).mono ?_; rintro e w' ⟨rfl, r0, rfl⟩)
 go_loopw [7, 8, 19] (fun cv _ i wr => ∃ (k cy : Nat) (dk : List Nat), k ≤ m ∧ i = .int .i64 k ∧ cv = U cy ∧ AddRel w g off n zs ys k cy dk wr) (fun _ _ i _ => m - (intOf i).toNat)
 case atStart => exact ⟨0, 0, zs, Nat.zero_le _, rfl, rfl, ⟨(Wr.refl _ _ _ _).drewN _, hz.drewN _, rfl, by omega, by simp [valB]⟩⟩
 case round =>
  obtain ⟨k, cy, dk, hk, rfl, rfl, hR⟩ := hrel
  by_cases hlt : k < m
  ·obtain ⟨g2, off2, rfl, hc2⟩ := ha.cells.resolve_left (by omega)
   obtain ⟨x, hx⟩ := exq (dk.getD k 0);obtain ⟨y, hy⟩ := exq (ys.getD k 0)
   have hcx : wr.cell? ⟨g, off + k, none⟩ = some (U x) := by rw [hx]; exact hR.row.cell k (by omega)
   have hfx : wr.frozen? ⟨g, off + k, none⟩ = false := hR.row.frozen k (by omega)
   have hcy : wr.cell? ⟨g2, off2 + k, none⟩ = some (U y) := by
    rw [hy, hR.wrs.cell g2 (off2 + k) (by have := hap g2 off2 (by omega) rfl; omega)]; exact hc2 k hlt
   obtain ⟨s, d1, hrun, hsum, hsl, hd1⟩ := add64_ex x y cy (by rw [hx]; exact hR.row.dig.getD B64_pos k) (by rw [hy]; exact ha.dig.getD B64_pos k) hR.car
   have HR := hdQ hR;have HX : Hid (x = dk.getD k 0) := hx;have HY : Hid (y = ys.getD k 0) := hy;have HS : Hid (x + y + cy = s + B64 * d1) := hsum;clear hR hx hy hsum hc2
   go_wp2
   go_region
   go_wp2
   go_roundw
   case rel => exact ⟨k + 1, d1, dk.set k s, by omega, by go_num, rfl, HR.out.step (by omega) HX.out HY.out HS.out hsl hd1 1⟩
   case measure => simp [intOf]; omega
  ·obtain rfl : k = m := by omega
   have HR := hdQ hR;clear hR
   go_wp2
   go_loopw [7, 9, 41] (fun cv _ i wr => ∃ (j cy : Nat) (dk : List Nat), j ≤ n - k ∧ i = .int .i64 j ∧ cv = U cy ∧ AddRel w g off n zs ys (k + j) cy dk wr) (fun _ _ i _ => n - k - (intOf i).toNat)
   case atStart => exact ⟨0, cy, dk, Nat.zero_le _, rfl, rfl, HR.out⟩
   case round =>
    clear HR;obtain ⟨j, cy, dk, hj, rfl, rfl, hR⟩ := hrel
    by_cases hlt2 : j < n - k
    ·have hco : cutOff off n k = off + k := cutOff_lt (by omega)
     obtain ⟨x, hx⟩ := exq (dk.getD (k + j) 0)
     have hcx : wr.cell? ⟨g, cutOff off n k + j, none⟩ = some (U x) := by rw [hx, hco, Nat.add_assoc]; exact hR.row.cell (k + j) (by omega)
     have hfx : wr.frozen? ⟨g, cutOff off n k + j, none⟩ = false := by rw [hco, Nat.add_assoc]; exact hR.row.frozen (k + j) (by omega)
     obtain ⟨s, d1, hrun0, hsum, hsl, hd1⟩ := add64_ex x 0 cy (by rw [hx]; exact hR.row.dig.getD B64_pos _) B64_pos hR.car
     have HR := hdQ hR;have HX : Hid (x = dk.getD (k + j) 0) := hx;have HS : Hid (x + 0 + cy = s + B64 * d1) := hsum;have HO : Hid (cutOff off n k = off + k) := hco
     have hrun : ∀ w : World, (callFunc 152 #[U x, .int .u64 0, U cy]).run Tryz.prog w = .ok (.value (.tuple #[U s, U d1])) w := hrun0
     clear hR hx hsum hco hrun0
     by_cases hc0 : cy = 0
     ·subst hc0
      go_wp2
      go_ret
      exact ⟨0, dk, rfl, by omega, HR.out.wrs, HR.out.row, HR.out.fin hl (by omega) (by omega) (.inl rfl)⟩
     ·have hc0' : ((cy : Int) == 0) = false := by simp; omega
      go_wp2
      go_roundw
      case rel =>
       refine ⟨j + 1, d1, dk.set (k + j) s, by omega, by go_num, rfl, ?_⟩
       have st := HR.out.step (by omega) HX.out (y := 0) (by rw [List.getD_eq_getElem?_getD, List.getElem?_eq_none (by omega)]; rfl) HS.out hsl hd1 0
       rw [← Nat.add_assoc off, ← HO.out] at st
       exact st
      case measure => simp [intOf]; omega
    ·have hjn : k + j = n := by omega
     have HR := hdQ hR;have HJ : Hid (k + j = n) := hjn;clear hR hjn
     go_wp2
     go_ret
     exact ⟨cy, dk, rfl, HR.out.car, HR.out.wrs, HR.out.row, HR.out.fin hl (by omega) (by have := HJ.out; omega) (.inr HJ.out)⟩
theorem sub64_ex (x y c : Nat) (hx : x < B64) (hy : y < B64) (hc : c ≤ 1) : ∃ s d, (∀ w : World, (callFunc 147 #[U x, U y, U c]).run Tryz.prog w = .ok (.value (.tuple #[U s, U d])) w) ∧ x + B64 * d = s + y + c ∧ s < B64 ∧ d ≤ 1 := by
  refine ⟨(x + 18446744073709551616 - y - c) % 18446744073709551616, if x < y + c then 1 else 0, fun w => ?_, ?_, ?_, ?_⟩
  · rw [run_callFunc_extern Tryz.func147 (by kernel_rfl) (by kernel_rfl) (by kernel_rfl) (e := sub64Entry) (by kernel_rfl), run_sub64 x y c hc]
    rfl
  · rw [B64_eq] at *; split <;> omega
  · rw [B64_eq]; omega
  · split <;> omega

structure SubRel (w : World) (g off n : Nat) (zs ys : List Nat) (k cy : Nat) (dk : List Nat) (wr : World) : Prop where
 wrs : Wr g off n w wr
 row : Row wr g off n dk
 hi : dk.drop k = zs.drop k
 car : cy ≤ 1
 sum : valB B64 (dk.take k) + valB B64 (ys.take k) = valB B64 (zs.take k) + B64 ^ k * cy

theorem SubRel.step {w : World} {g off n : Nat} {zs ys : List Nat} {k cy : Nat} {dk : List Nat} {wr : World} (h : SubRel w g off n zs ys k cy dk wr) (hk : k < n)
  {x y s d : Nat} (hx : x = dk.getD k 0) (hy : y = ys.getD k 0) (hs : x + B64 * d = s + y + cy) (hsl : s < B64) (hd : d ≤ 1) (q : Nat) :
  SubRel w g off n zs ys (k + 1) d (dk.set k s) ((wr.setCell ⟨g, off + k, none⟩ (U s)).drewN q) := by
 have hl := h.row.len
 refine ⟨(h.wrs.setCell (off + k) ⟨by omega, by omega⟩ _).drewN q, (h.row.set k s hk hsl).drewN q, ?_, hd, ?_⟩
 ·rw [drop_set_lt]; exact drop_succ_of_drop h.hi
 ·have hxz : x = zs.getD k 0 := hx.trans (getD_of_drop h.hi)
  rw [take_set_succ dk k s (by omega), valB_snoc, List.length_take, hl, Nat.min_eq_left (by omega), valB_take_any _ zs k, valB_take_any _ ys k, ← hxz, ← hy, Nat.pow_succ]
  have e1 := h.sum
  have e2 : B64 ^ k * (x + B64 * d) = B64 ^ k * (s + y + cy) := by rw [hs]
  rw [Nat.mul_add, Nat.mul_add, Nat.mul_add, ← Nat.mul_assoc] at e2
  omega
theorem SubRel.fin {w : World} {g off n : Nat} {zs ys : List Nat} {k cy : Nat} {dk : List Nat} {wr : World} (h : SubRel w g off n zs ys k cy dk wr) (hz : zs.length = n) (hy : ys.length ≤ k) (hk : k ≤ n) (hf : cy = 0 ∨ k = n) :
  valB B64 dk + valB B64 ys = valB B64 zs + B64 ^ n * cy := by
 have hl := h.row.len;have e1 := h.sum;rw [List.take_of_length_le hy] at e1
 rw [valB_split B64 dk k (by omega), valB_split B64 zs k (by omega), h.hi]
 rcases hf with rfl | rfl
 ·omega
 ·rw [List.drop_of_length_le (by omega)]; simp only [valB_nil]; omega

theorem lsub_any (g off n c : Nat) (zs : List Nat) (p : Option Addr) (m d : Nat) (ys : List Nat) (w : World) (hz : Row w g off n zs) (hnc : n ≤ c) (hbig : c ≤ 9223372036854775807)
  (ha : At w p m d ys) (hmn : m ≤ n) (hap : ∀ g2 off2, 0 < m → p = some ⟨g2, off2, none⟩ → g2 ≠ g ∨ off2 + m ≤ off ∨ off + n ≤ off2) :
  Calls Tryz.prog 128 #[.slice (some ⟨g, off, none⟩) n c, .slice p m d] w fun e w' =>
   ∃ cy zs', e = .returned (U cy) ∧ cy ≤ 1 ∧ Wr g off n w w' ∧ Row w' g off n zs' ∧ valB B64 zs' + valB B64 ys = valB B64 zs + B64 ^ n * cy := by
 have hl := hz.len; have al := ha.len; have acap := ha.cap; have abig := ha.big;unfold maxLen at abig
 go_enter Tryz.func128, Tryz.ntmps128
 go_wp2_with (go_at_call 119; refine (cut_row g off n c m _ hnc hmn).mono ?_; rintro e w' ⟨rfl, r0, rfl⟩)
 go_loopw [7, 8, 19] (fun cv _ i wr => ∃ (k cy : Nat) (dk : List Nat), k ≤ m ∧ i = .int .i64 k ∧ cv = U cy ∧ SubRel w g off n zs ys k cy dk wr) (fun _ _ i _ => m - (intOf i).toNat)
 case atStart => exact ⟨0, 0, zs, Nat.zero_le _, rfl, rfl, ⟨(Wr.refl _ _ _ _).drewN _, hz.drewN _, rfl, by omega, by simp [valB]⟩⟩
 case round =>
  obtain ⟨k, cy, dk, hk, rfl, rfl, hR⟩ := hrel
  by_cases hlt : k < m
  ·obtain ⟨g2, off2, rfl, hc2⟩ := ha.cells.resolve_left (by omega)
   obtain ⟨x, hx⟩ := exq (dk.getD k 0);obtain ⟨y, hy⟩ := exq (ys.getD k 0)
   have hcx : wr.cell? ⟨g, off + k, none⟩ = some (U x) := by rw [hx]; exact hR.row.cell k (by omega)
   have hfx : wr.frozen? ⟨g, off + k, none⟩ = false := hR.row.frozen k (by omega)
   have hcy : wr.cell? ⟨g2, off2 + k, none⟩ = some (U y) := by
    rw [hy, hR.wrs.cell g2 (off2 + k) (by have := hap g2 off2 (by omega) rfl; omega)]; exact hc2 k hlt
   obtain ⟨s, d1, hrun, hsum, hsl, hd1⟩ := sub64_ex x y cy (by rw [hx]; exact hR.row.dig.getD B64_pos k) (by rw [hy]; exact ha.dig.getD B64_pos k) hR.car
   have HR := hdQ hR;have HX : Hid (x = dk.getD k 0) := hx;have HY : Hid (y = ys.getD k 0) := hy;have HS : Hid (x + B64 * d1 = s + y + cy) := hsum;clear hR hx hy hsum hc2
   go_wp2
   go_region
   go_wp2
   go_roundw
   case rel => exact ⟨k + 1, d1, dk.set k s, by omega, by go_num, rfl, HR.out.step (by omega) HX.out HY.out HS.out hsl hd1 1⟩
   case measure => simp [intOf]; omega
  ·obtain rfl : k = m := by omega
   have HR := hdQ hR;clear hR
   go_wp2
   go_loopw [7, 9, 41] (fun cv _ i wr => ∃ (j cy : Nat) (dk : List Nat), j ≤ n - k ∧ i = .int .i64 j ∧ cv = U cy ∧ SubRel w g off n zs ys (k + j) cy dk wr) (fun _ _ i _ => n - k - (intOf i).toNat)
   case atStart => exact ⟨0, cy, dk, Nat.zero_le _, rfl, rfl, HR.out⟩
   case round =>
    clear HR;obtain ⟨j, cy, dk, hj, rfl, rfl, hR⟩ := hrel
    by_cases hlt2 : j < n - k
    ·have hco : cutOff off n k = off + k := cutOff_lt (by omega)
     obtain ⟨x, hx⟩ := exq (dk.getD (k + j) 0)
     have hcx : wr.cell? ⟨g, cutOff off n k + j, none⟩ = some (U x) := by rw [hx, hco, Nat.add_assoc]; exact hR.row.cell (k + j) (by omega)
     have hfx : wr.frozen? ⟨g, cutOff off n k + j, none⟩ = false := by rw [hco, Nat.add_assoc]; exact hR.row.frozen (k + j) (by omega)
     obtain ⟨s, d1, hrun0, hsum, hsl, hd1⟩ := sub64_ex x 0 cy (by rw [hx]; exact hR.row.dig.getD B64_pos _) B64_pos hR.car
     have HR := hdQ hR;have HX : Hid (x = dk.getD (k + j) 0) := hx;have HS : Hid (x + B64 * d1 = s + 0 + cy) := hsum;have HO : Hid (cutOff off n k = off + k) := hco
     have hrun : ∀ w : World, (callFunc 147 #[U x, .int .u64 0, U cy]).run Tryz.prog w = .ok (.value (.tuple #[U s, U d1])) w := hrun0
     clear hR hx hsum hco hrun0
     by_cases hc0 : cy = 0
     ·subst hc0
      go_wp2
      go_ret
      exact ⟨0, dk, rfl, by omega, HR.out.wrs, HR.out.row, HR.out.fin hl (by omega) (by omega) (.inl rfl)⟩
     ·have hc0' : ((cy : Int) == 0) = false := by simp; omega
      go_wp2
      go_roundw
      case rel =>
       refine ⟨j + 1, d1, dk.set (k + j) s, by omega, by go_num, rfl, ?_⟩
       have st := HR.out.step (by omega) HX.out (y := 0) (by rw [List.getD_eq_getElem?_getD, List.getElem?_eq_none (by omega)]; rfl) HS.out hsl hd1 0
       rw [← Nat.add_assoc off, ← HO.out] at st
       exact st
      case measure => simp [intOf]; omega
    ·have hjn : k + j = n := by omega
     have HR := hdQ hR;have HJ : Hid (k + j = n) := hjn;clear hR hjn
     go_wp2
     go_ret
     exact ⟨cy, dk, rfl, HR.out.car, HR.out.wrs, HR.out.row, HR.out.fin hl (by omega) (by have := HJ.out; omega) (.inr HJ.out)⟩
def cmpN (a b : Nat) : Int := if a < b then -1 else if a = b then 0 else 1
theorem cmpN_lt {a b : Nat} (h : a < b) : cmpN a b = -1 := if_pos h
theorem cmpN_gt {a b : Nat} (h : b < a) : cmpN a b = 1 := by unfold cmpN; rw [if_neg (by omega), if_neg (by omega)]
theorem cmpN_eq {a b : Nat} (h : a = b) : cmpN a b = 0 := by unfold cmpN; rw [if_neg (by omega), if_pos h]
theorem cmpN_neg (a b : Nat) : cmpN a b < 0 ↔ a < b := by unfold cmpN; split <;> rename_i h; · simp [h]
                                                          · split <;> simp [h]

theorem val_lt_len {xs ys : List Nat} (hx : Dig B64 xs) (ty : Top ys) (h : xs.length < ys.length) : valB B64 xs < valB B64 ys := by
  have h1 := valB_lt B64_pos hx
  have h2 := valB_pos B64_pos (show ys ≠ [] by intro e; subst e; simp at h) ty
  have h3 : B64 ^ xs.length ≤ B64 ^ (ys.length - 1) := Nat.pow_le_pow_right B64_pos (by omega)
  omega
theorem val_lt_top {xs ys : List Nat} (hx : Dig B64 xs) {n t x y : Nat} (lx : xs.length = n) (ly : ys.length = n) (ht : t < n) (hd : xs.drop (t + 1) = ys.drop (t + 1)) (ex : x = xs.getD t 0) (ey : y = ys.getD t 0) (h : x < y) : valB B64 xs < valB B64 ys := by
  have h1 := valB_lt B64_pos (hx.take t)
  rw [List.length_take, lx, Nat.min_eq_left (by omega)] at h1
  rw [valB_split B64 xs t (by omega), valB_split B64 ys t (by omega), valB_drop _ xs t (by omega), valB_drop _ ys t (by omega), hd, ← ex, ← ey]
  have h2 : B64 ^ t * (x + 1) ≤ B64 ^ t * y := Nat.mul_le_mul_left _ h;rw [Nat.mul_add] at h2;rw [Nat.mul_add, Nat.mul_add]
  omega
theorem drop_step {xs ys : List Nat} {n t : Nat} (lx : xs.length = n) (ly : ys.length = n) (ht : t < n) (hd : xs.drop (t + 1) = ys.drop (t + 1)) (h : xs.getD t 0 = ys.getD t 0) : xs.drop t = ys.drop t := by
  rw [drop_getD xs t (by omega), drop_getD ys t (by omega), h, hd]

theorem drewN_two (w : World) (a b : Nat) : (w.drewN a).drewN b = w.drewN (a + b) := by simp

theorem cmp_any {p q : Option Addr} {n m c d : Nat} {xs ys : List Nat} {w : World} (h : At w p n c xs) (k : At w q m d ys) :
  Calls Tryz.prog 89 #[.slice p n c, .slice q m d] w fun e w' => e = .returned (.int .i64 (cmpN (valB B64 xs) (valB B64 ys))) ∧ ∃ r, w' = w.drewN r := by
 obtain ⟨res, hres⟩ := exq (cmpN (valB B64 xs) (valB B64 ys));rw [← hres]
 have HRES : Hid (res = cmpN (valB B64 (trimL xs)) (valB B64 (trimL ys))) := by rw [valB_trimL, valB_trimL]; exact hres
 clear hres
 go_enter Tryz.func89, Tryz.ntmps89
 go_wp2_with fail
 refine (trim_any h).mono ?_
 rintro e w' ⟨p1, n1, rfl, hn1, hp1, hw⟩;obtain rfl := hw.symm;clear hw;go_wp2_with fail
 refine (trim_any k).mono ?_
 rintro e w' ⟨q1, m1, rfl, hm1, hq1, hw⟩;obtain rfl := hw.symm;clear hw;have A := h.trim hn1 hp1;have K := k.trim hm1 hq1;have tx := Top_trimL xs;have ty := Top_trimL ys;clear hn1 hm1 hp1 hq1 h k;generalize trimL xs = us at *;generalize trimL ys = vs at *;have al := A.len; have acap := A.cap; have abig := A.big; have adig := A.dig;have kl := K.len; have kbig := K.big; have kdig := K.dig;unfold maxLen at abig kbig;have HX : Hid (Top us) := tx;have HY : Hid (Top vs) := ty;have HU := hdQ adig;have HV := hdQ kdig;clear tx ty adig kdig
 by_cases hlt : n1 < m1
 ·have hne : ((n1 : Int) != (m1 : Int)) = true := by simp; omega
  have hr : res = -1 := HRES.out.trans (cmpN_lt (val_lt_len HU.out HY.out (by omega)))
  have HR : Hid (res = -1) := hr;clear hr
  go_wp2_with (go_at_call 129; refine (order_any _ _).mono ?_; rintro e w' ⟨rfl, hw⟩; obtain rfl := hw.symm; clear hw)
  go_ret
  exact ⟨ret_int HR.out.symm, 0, rfl⟩
 ·by_cases hgt : m1 < n1
  ·have hne : ((n1 : Int) != (m1 : Int)) = true := by simp; omega
   have hr : res = 1 := HRES.out.trans (cmpN_gt (val_lt_len HV.out HX.out (by omega)))
   have HR : Hid (res = 1) := hr;clear hr
   go_wp2_with (go_at_call 129; refine (order_any _ _).mono ?_; rintro e w' ⟨rfl, hw⟩; obtain rfl := hw.symm; clear hw)
   go_ret
   exact ⟨ret_int HR.out.symm, 0, rfl⟩
  ·obtain rfl : n1 = m1 := by omega
   have hne : ((n1 : Int) != (n1 : Int)) = false := by simp
   go_wp2
   go_loopw [6, 7, 24] (fun _ _ i wr => ∃ t r : Nat, t ≤ n1 ∧ i = .int .i64 t ∧ wr = w.drewN r ∧ us.drop (n1 - t) = vs.drop (n1 - t)) (fun _ _ i _ => n1 - (intOf i).toNat)
   case atStart => exact ⟨0, 0, Nat.zero_le _, rfl, rfl, by rw [Nat.sub_zero, List.drop_of_length_le (by omega), List.drop_of_length_le (by omega)]⟩
   case round =>
    obtain ⟨t, r, ht, rfl, rfl, hd⟩ := hrel;have HD : Hid (us.drop (n1 - t) = vs.drop (n1 - t)) := hd;clear hd
    by_cases h1 : t < n1
    ·obtain ⟨g, off, rfl, hc⟩ := A.cells.resolve_left (by omega)
     obtain ⟨g2, off2, rfl, hc2⟩ := K.cells.resolve_left (by omega)
     obtain ⟨x, hx⟩ := exq (us.getD (n1 - 1 - t) 0);obtain ⟨y, hy⟩ := exq (vs.getD (n1 - 1 - t) 0)
     have hcx : w.cell? ⟨g, off + (n1 - 1 - t), none⟩ = some (U x) := by rw [hx]; exact hc _ (by omega)
     have hcy : w.cell? ⟨g2, off2 + (n1 - 1 - t), none⟩ = some (U y) := by rw [hy]; exact hc2 _ (by omega)
     have HX2 : Hid (x = us.getD (n1 - 1 - t) 0) := hx;have HY2 : Hid (y = vs.getD (n1 - 1 - t) 0) := hy
     have HD2 : Hid (us.drop (n1 - 1 - t + 1) = vs.drop (n1 - 1 - t + 1)) := by
      have e : n1 - 1 - t + 1 = n1 - t := by omega
      rw [e]; exact HD.out
     clear hx hy hc hc2 HD
     by_cases hxy : x = y
     ·have hb : ((x : Int) != (y : Int)) = false := by simp; omega
      go_wp2
      go_quiet (fail)
      go_wp2
      go_roundw
      case rel =>
       refine ⟨t + 1, r + nq, by omega, by go_num, rfl, ?_⟩
       have := drop_step (t := n1 - 1 - t) al kl (by omega) HD2.out (by rw [← HX2.out, ← HY2.out]; exact hxy)
       rw [show n1 - (t + 1) = n1 - 1 - t by omega]; exact this
      case measure => simp [intOf]; omega
     ·have hb : ((x : Int) != (y : Int)) = true := by simp; omega
      by_cases hl : x < y
      ·have hr : res = -1 := HRES.out.trans (cmpN_lt (val_lt_top HU.out al kl (by omega) HD2.out HX2.out HY2.out hl))
       have HR : Hid (res = -1) := hr
       have hl' : (x : Int) < (y : Int) := by omega
       clear hr
       go_wp2
       go_quiet (fail)
       go_wp2
       go_quiet ((go_at_call 129; exact (order_any _ _).mono (fun e w1 h => ⟨h.1, _, h.2⟩)))
       go_wp2
       go_ret
       exact ⟨ret_int HR.out.symm, _, by first | rfl | (rw [drewN_two, drewN_two])⟩
      ·have hr : res = 1 := HRES.out.trans (cmpN_gt (val_lt_top HV.out kl al (by omega) HD2.out.symm HY2.out HX2.out (by omega)))
       have HR : Hid (res = 1) := hr
       have hl' : ¬ (x : Int) < (y : Int) := by omega
       clear hr
       go_wp2
       go_quiet (fail)
       go_wp2
       go_quiet ((go_at_call 129; exact (order_any _ _).mono (fun e w1 h => ⟨h.1, _, h.2⟩)))
       go_wp2
       go_ret
       exact ⟨ret_int HR.out.symm, _, by first | rfl | (rw [drewN_two, drewN_two])⟩
    ·obtain rfl : t = n1 := by omega
     have hr : res = 0 := HRES.out.trans (cmpN_eq (by have := HD.out; rw [Nat.sub_self, List.drop_zero, List.drop_zero] at this; rw [this]))
     have HR : Hid (res = 0) := hr;clear hr
     go_wp2
     go_ret
     exact ⟨ret_int HR.out.symm, r, rfl⟩
theorem bDrewN {B : Nat} {a w : World} (h : Below B a w) (q : Nat) : Below B a (w.drewN q) := ⟨h.os, h.tape, h.output, h.size, h.block⟩

theorem dig1 {x : Nat} (h : x < B64) : Dig B64 [x] := Dig.cons h (Dig.nil _)

def LIM : Nat := B64 ^ 8192
theorem LIM_eq (k : Nat) (hk : k = 8192) : LIM = B64 ^ k := by subst hk; unfold LIM; rfl
theorem Nf.lim {xs : List Nat} {n : Nat} (h : Nf B64 xs n) : xs.length ≤ 8192 ↔ n < LIM := by
  have := h.len_le (k := 8192) B64_one;unfold LIM; exact this

structure Own (B : Nat) (w : World) (p : Option Addr) (m : Nat) (zs : List Nat) : Prop where
 len : zs.length = m
 dig : Dig B64 zs
 mem : m = 0 ∨ ∃ g, p = some ⟨g, 0, none⟩ ∧ B ≤ g ∧ Row w g 0 m zs
theorem Own.at_ {B : Nat} {w : World} {p : Option Addr} {m : Nat} {zs : List Nat} (h : Own B w p m zs) (hm : m ≤ 8192) : At w p m m zs := by
  refine ⟨h.len, Nat.le_refl _, by unfold maxLen; omega, h.dig, ?_⟩
  rcases h.mem with h0 | ⟨g, rfl, _, hr⟩
  · exact .inl h0
  · exact .inr ⟨g, 0, rfl, hr.cell⟩
theorem Row.lt {w : World} {g off n : Nat} {xs : List Nat} (h : Row w g off n xs) (hn : 0 < n) : g < w.heap.size := World.block_lt_of_cell? w _ (h.cell 0 hn)
theorem Own.below {B : Nat} {w w' : World} {p : Option Addr} {m : Nat} {zs : List Nat} (h : Own B w p m zs) (hb : Below w.heap.size w w') : Own B w' p m zs := by
  refine ⟨h.len, h.dig, ?_⟩
  by_cases h0 : m = 0
  · exact .inl h0
  · obtain ⟨g, rfl, hg, hr⟩ := h.mem.resolve_left h0
    exact .inr ⟨g, rfl, hg, hr.below hb (hr.lt (by omega))⟩
theorem Own.b {B : Nat} {w w' : World} {p : Option Addr} {m : Nat} {zs : List Nat} (h : Hid (Own B w p m zs)) (hb : Below w.heap.size w w') : Hid (Own B w' p m zs) := Own.below h hb
theorem Own.mono {B B' : Nat} {w : World} {p : Option Addr} {m : Nat} {zs : List Nat} (h : Own B w p m zs) (hB : B' ≤ B) : Own B' w p m zs := by
  refine ⟨h.len, h.dig, ?_⟩
  rcases h.mem with h0 | ⟨g, hp, hg, hr⟩
  · exact .inl h0
  · exact .inr ⟨g, hp, by omega, hr⟩
theorem Row.take {w : World} {g off n : Nat} {xs : List Nat} (h : Row w g off n xs) (m : Nat) (hm : m ≤ n) : Row w g off m (xs.take m) := by
  refine ⟨by rw [List.length_take, h.len]; omega, h.dig.take m, fun j hj => ?_, fun j hj => h.frozen j (by omega)⟩
  have e : (xs.take m).getD j 0 = xs.getD j 0 := by rw [List.getD_eq_getElem?_getD, List.getD_eq_getElem?_getD, List.getElem?_take, if_pos hj]
  rw [e]; exact h.cell j (by omega)
theorem Row.own {w : World} {g n B : Nat} {xs : List Nat} (h : Row w g 0 n xs) (hB : B ≤ g) {p' : Option Addr} {m : Nat} (hm : m = (trimL xs).length) (hp : m ≠ 0 → p' = some ⟨g, 0, none⟩) : Own B w p' m (trimL xs) := by
  have hle := trimL_length_le xs
  refine ⟨hm.symm, h.dig.trimL, ?_⟩
  by_cases h0 : m = 0
  · exact .inl h0
  · have := h.take m (by have := h.len; omega)
    rw [hm, ← trimL_take, ← hm] at this
    exact .inr ⟨g, hp h0, hB, this⟩
theorem Blk.own {w : World} {g B : Nat} {xs : List Nat} (h : Blk w g xs) (hd : Dig B64 xs) (hB : B ≤ g) : Own B w (some ⟨g, 0, none⟩) xs.length xs :=
 ⟨rfl, hd, .inr ⟨g, rfl, hB, h.row hd⟩⟩
theorem Blk.at_ {w : World} {g : Nat} {xs : List Nat} (h : Blk w g xs) (hd : Dig B64 xs) {n : Nat} (hn : xs.length = n) (hb : n ≤ maxLen) : At w (some ⟨g, 0, none⟩) n n xs := by
  subst hn; exact (h.row hd).at_ (Nat.le_refl _) hb

def Ans (B : Nat) (w' : World) (e : Ending) (n : Nat) : Prop :=
 (n < LIM ∧ ∃ p m zs, e = .returned (.tuple #[.slice p m m, .int .i64 0]) ∧ Own B w' p m zs ∧ Nf B64 zs n ∧ m ≤ 8192) ∨
 (LIM ≤ n ∧ e = .returned (.tuple #[.slice none 0 0, .int .i64 5]))

theorem norm_any {p : Option Addr} {n c : Nat} {xs : List Nat} {w : World} (h : At w p n c xs) :
  Calls Tryz.prog 126 #[.slice p n c] w fun e w' => Ans w.heap.size w' e (valB B64 xs) ∧ Below w.heap.size w w' := by
 have hN := Nf.trim h.dig;have hlim := hN.lim;have HN := hdQ hN;have HL : Hid ((trimL xs).length ≤ 8192 ↔ valB B64 xs < LIM) := hlim;clear hN hlim
 go_enter Tryz.func126, Tryz.ntmps126
 go_wp2_with fail
 refine (trim_any h).mono ?_
 rintro e w' ⟨p1, m, rfl, hm, hp, hw⟩;obtain rfl := hw.symm;have A := h.trim hm hp;have HM : Hid (m = (trimL xs).length) := hm;clear hw hm hp
 by_cases hle : m ≤ 8192
 ·go_wp2_with fail
  refine (copied_any A m (Nat.le_refl _) (by omega)).mono ?_
  rintro e w1 ⟨g, rfl, hg, hblk, hb⟩;rw [Nat.sub_self, List.replicate_zero, List.append_nil] at hblk;go_wp2_with fail
  go_ret2
  have e1 := HM.out
  refine ⟨.inl ⟨HL.out.1 (by omega), _, m, trimL xs, rfl, ?_, HN.out, hle⟩, hb⟩
  have := hblk.own HN.out.dig hg;rw [← e1] at this; exact this
 ·go_wp2_with fail
  go_ret2
  have e1 := HM.out
  refine ⟨.inr ⟨?_, rfl⟩, Below.refl _ _⟩
  have := mt HL.out.2 (by omega)
  omega

theorem form_true {p : Option Addr} {n c : Nat} {xs : List Nat} {w : World} (h : At w p n c xs) (hf : formB xs = true) :
  Calls Tryz.prog 90 #[.slice p n c] w fun e w' => e = .returned (.bool true) ∧ w' = w := by
 have := form_any h; rw [hf] at this; exact this
theorem form_false {p : Option Addr} {n c : Nat} {xs : List Nat} {w : World} (h : At w p n c xs) (hf : formB xs = false) :
  Calls Tryz.prog 90 #[.slice p n c] w fun e w' => e = .returned (.bool false) ∧ w' = w := by
 have := form_any h; rw [hf] at this; exact this
theorem Nf.form {xs : List Nat} {n : Nat} (h : Nf B64 xs n) (hl : xs.length ≤ 8192) : formB xs = true := (formB_iff xs).2 ⟨hl, h.top⟩
theorem formB_nf {xs : List Nat} (h : formB xs = true) (hd : Dig B64 xs) : Nf B64 xs (valB B64 xs) ∧ xs.length ≤ 8192 := ⟨⟨hd, ((formB_iff xs).1 h).2, rfl⟩, ((formB_iff xs).1 h).1⟩
theorem dig_pad {xs : List Nat} (h : Dig B64 xs) (n : Nat) : Dig B64 (xs ++ List.replicate n 0) := h.append (Dig.replicate _ _ B64_pos)

theorem add_abs {P Q R A B Z cy : Nat} (hs : Z + Q * cy = A + B) (h1 : A < P) (h2 : B < R) (h3 : R ≤ P) (h5 : P * 2 ≤ Q) : Z = A + B := by
  by_cases hc : cy = 0
  · subst hc; omega
  · have h6 : Q * 1 ≤ Q * cy := Nat.mul_le_mul_left _ (by omega)
    omega
theorem add_fin {n m : Nat} {zs xs ys : List Nat} {a b cy : Nat} (hx : Nf B64 xs a) (hy : Nf B64 ys b) (hlx : xs.length = n) (hly : ys.length = m) (hmn : m ≤ n)
  (hs : valB B64 zs + B64 ^ (n + 1) * cy = valB B64 (xs ++ List.replicate (n + 1 - n) 0) + valB B64 ys) : valB B64 zs = a + b := by
 rw [valB_append_zeros, hx.val, hy.val] at hs;have h1 := valB_lt B64_pos hx.dig;have h2 := valB_lt B64_pos hy.dig;rw [hx.val, hlx] at h1;rw [hy.val, hly] at h2
 refine add_abs hs h1 h2 (Nat.pow_le_pow_right B64_pos hmn) ?_
 rw [Nat.pow_succ]; exact Nat.mul_le_mul_left _ B64_two

theorem add_ord {p q : Option Addr} {n m c d : Nat} {xs ys : List Nat} {a b : Nat} {w : World} (h : At w p n c xs) (k : At w q m d ys) (hx : Nf B64 xs a) (hy : Nf B64 ys b) (hlx : n ≤ 8192) (hly : m ≤ 8192) :
  Calls Tryz.prog 123 #[.slice p n c, .slice q m d] w fun e w' => Ans w.heap.size w' e (a + b) ∧ Below w.heap.size w w' := by
 have fx := hx.form (by rw [h.len]; exact hlx)
 have fy := hy.form (by rw [k.len]; exact hly)
 have HX := hdQ hx;have HY := hdQ hy;clear hx hy
 go_enter Tryz.func123, Tryz.ntmps123
 go_wp2_with fail
 refine (form_true h fx).mono ?_
 rintro e w' ⟨rfl, hw⟩;obtain rfl := hw.symm;clear hw;go_wp2_with fail
 refine (form_true k fy).mono ?_
 rintro e w' ⟨rfl, hw⟩;obtain rfl := hw.symm;clear hw fx fy
 by_cases hlt : n < m
 ·go_wp2_with fail
  rw [show ((m : Int) + 1) = ((m + 1 : Nat) : Int) by omega]
  refine (copied_any k (m + 1) (by omega) (by omega)).mono ?_
  rintro e w1 ⟨g, rfl, hg, hblk, hb⟩;have hd1 := dig_pad HY.out.dig (m + 1 - m);have hr := hblk.row hd1
  have hl1 : (ys ++ List.replicate (m + 1 - m) 0).length = m + 1 := by rw [List.length_append, List.length_replicate, k.len]; omega
  rw [hl1] at hr;have h1 := h.below hb;go_wp2_with fail
  refine (ladd_any g 0 (m + 1) (m + 1) _ p n c xs _ hr (Nat.le_refl _) (by omega) h1 (by omega) (fun g2 off2 hn hp => .inl (h.fresh hg g2 off2 hn hp))).mono ?_
  rintro e w2 ⟨cy, zs, rfl, _, hwr, hrow, hsum⟩
  have A2 := hrow.at_ (Nat.le_refl _) (by unfold maxLen; omega)
  have hval := add_fin HY.out HX.out k.len h.len (by omega) hsum
  have hN := Nf.trim hrow.dig;rw [hval] at hN;have HV := hdQ hN;have hb2 : Below w.heap.size w w2 := hb.trans (hwr.below hg);clear hsum hval hN hd1 hl1 hr hblk;go_wp2_with fail
  refine (fitted_any A2).mono ?_
  rintro e w3 hres
  rcases hres with ⟨hle, ⟨p', m', rfl, hm', hp'⟩, hw⟩ | ⟨hgt, rfl, hw⟩
  ·obtain rfl := hw.symm
   have HM : Hid (m' = (trimL zs).length) := hm';clear hw hm';go_wp2_with fail
   go_ret2
   have e1 := HM.out;rw [Nat.add_comm a b]
   exact ⟨.inl ⟨HV.out.lim.1 hle, p', m', trimL zs, rfl, hrow.own hg e1 hp', HV.out, by omega⟩, hb2⟩
  ·obtain rfl := hw.symm
   clear hw;go_wp2_with fail
   go_ret2
   rw [Nat.add_comm a b]
   refine ⟨.inr ⟨?_, rfl⟩, hb2⟩
   have := mt HV.out.lim.2 (by omega)
   omega
 ·go_wp2_with fail
  rw [show ((n : Int) + 1) = ((n + 1 : Nat) : Int) by omega]
  refine (copied_any h (n + 1) (by omega) (by omega)).mono ?_
  rintro e w1 ⟨g, rfl, hg, hblk, hb⟩;have hd1 := dig_pad HX.out.dig (n + 1 - n);have hr := hblk.row hd1
  have hl1 : (xs ++ List.replicate (n + 1 - n) 0).length = n + 1 := by rw [List.length_append, List.length_replicate, h.len]; omega
  rw [hl1] at hr;have h1 := k.below hb;go_wp2_with fail
  refine (ladd_any g 0 (n + 1) (n + 1) _ q m d ys _ hr (Nat.le_refl _) (by omega) h1 (by omega) (fun g2 off2 hn hp => .inl (k.fresh hg g2 off2 hn hp))).mono ?_
  rintro e w2 ⟨cy, zs, rfl, _, hwr, hrow, hsum⟩
  have A2 := hrow.at_ (Nat.le_refl _) (by unfold maxLen; omega)
  have hval := add_fin HX.out HY.out h.len k.len (by omega) hsum
  have hN := Nf.trim hrow.dig;rw [hval] at hN;have HV := hdQ hN;have hb2 : Below w.heap.size w w2 := hb.trans (hwr.below hg);clear hsum hval hN hd1 hl1 hr hblk;go_wp2_with fail
  refine (fitted_any A2).mono ?_
  rintro e w3 hres
  rcases hres with ⟨hle, ⟨p', m', rfl, hm', hp'⟩, hw⟩ | ⟨hgt, rfl, hw⟩
  ·obtain rfl := hw.symm
   have HM : Hid (m' = (trimL zs).length) := hm';clear hw hm';go_wp2_with fail
   go_ret2
   have e1 := HM.out
   exact ⟨.inl ⟨HV.out.lim.1 hle, p', m', trimL zs, rfl, hrow.own hg e1 hp', HV.out, by omega⟩, hb2⟩
  ·obtain rfl := hw.symm
   clear hw;go_wp2_with fail
   go_ret2
   refine ⟨.inr ⟨?_, rfl⟩, hb2⟩
   have := mt HV.out.lim.2 (by omega)
   omega
end Go.Proofs.YtmlclpjimkjjeaaGreatDoor
namespace Go.Proofs.YtmlclpjimkjjeaaGreatDoor
open Go.RowKit Go.Shelf
set_option maxRecDepth 20000
set_option maxHeartbeats 0
def renLen : Ren := ⟨fun x => match x with | 129 => 92 | n => n, fun x => match x with | 53 => 80 | 3 => 3 | 4 => 4 | 46 => 120 | 5 => 5 | 9 => 9 | n => n, fun n => n⟩
theorem laysLen : Lays.n129 Tryz.prog renLen :=
  { mixed := by kernel_rfl, f129 := Tryz.func92.trans (congrArg some (by kernel_rfl)),
    t3 := Tryz.underlying3, a3 := Tryz.isAgg3, z3 := Tryz.sizeOf3, v3 := Tryz.zeroValue3, t4 := Tryz.underlying4, a4 := Tryz.isAgg4, z4 := Tryz.sizeOf4, v4 := Tryz.zeroValue4,
    t5 := Tryz.underlying5, a5 := Tryz.isAgg5, z5 := Tryz.sizeOf5, v5 := Tryz.zeroValue5, t9 := Tryz.underlying9, a9 := Tryz.isAgg9, z9 := Tryz.sizeOf9, v9 := Tryz.zeroValue9,
    t46 := Tryz.underlying120, a46 := Tryz.isAgg120, z46 := Tryz.sizeOf120, v46 := Tryz.zeroValue120, t53 := Tryz.underlying80, a53 := Tryz.isAgg80, z53 := Tryz.sizeOf80, v53 := Tryz.zeroValue80 }

def bitsN (n : Nat) : Nat := if n = 0 then 0 else n.log2 + 1
theorem bitsN_zero : bitsN 0 = 0 := rfl
theorem bitsN_lt (n : Nat) : n < 2 ^ bitsN n := by
  unfold bitsN
  split
  · rename_i h; subst h; decide
  · exact Nat.lt_log2_self
theorem bitsN_le (n : Nat) (h : n ≠ 0) : 2 ^ (bitsN n - 1) ≤ n := by
  unfold bitsN;rw [if_neg h, Nat.add_sub_cancel]
  exact Nat.log2_self_le h
theorem bitsN_unique {n k : Nat} (h1 : n < 2 ^ k) (h2 : n ≠ 0 → 2 ^ (k - 1) ≤ n) (h3 : n = 0 → k = 0) : bitsN n = k := by
  by_cases h0 : n = 0
  · subst h0; rw [h3 rfl]; rfl
  · have a1 := bitsN_lt n
    have a2 := bitsN_le n h0;have b2 := h2 h0
    have c1 : bitsN n - 1 < k := (Nat.pow_lt_pow_iff_right (by decide : 1 < 2)).1 (Nat.lt_of_le_of_lt a2 h1)
    have c2 : k - 1 < bitsN n := (Nat.pow_lt_pow_iff_right (by decide : 1 < 2)).1 (Nat.lt_of_le_of_lt b2 a1)
    have c3 : bitsN n ≠ 0 := by unfold bitsN; rw [if_neg h0]; omega
    omega
theorem bitsN_half (n : Nat) (h : n ≠ 0) : bitsN n = 1 + bitsN (n / 2) := by
  refine bitsN_unique ?_ ?_ (fun e => absurd e h)
  · have := bitsN_lt (n / 2)
    rw [Nat.add_comm, Nat.pow_succ]; omega
  · intro _
    by_cases h2 : n / 2 = 0
    · rw [h2]; simp [bitsN]; omega
    · have a := bitsN_le _ h2
      have c3 : bitsN (n / 2) ≠ 0 := by unfold bitsN; rw [if_neg h2]; omega
      have e : 1 + bitsN (n / 2) - 1 = bitsN (n / 2) - 1 + 1 := by omega
      rw [e, Nat.pow_succ]; omega
theorem bitLen_eq : ∀ (k n : Nat), n < 2 ^ k → k ≤ 64 → Lib.bitLen n = bitsN n := by
  intro k
  induction k with
  | zero => intro n h _; have : n = 0 := by simpa using h
            subst this; rfl
  | succ k ih =>
    intro n h hk
    by_cases h0 : n = 0
    · subst h0; rfl
    · rw [Lib.bitLen_half n h0 (Nat.lt_of_lt_of_le h (Nat.pow_le_pow_right (by decide) hk)), bitsN_half n h0, ih (n / 2) (by rw [Nat.pow_succ] at h; omega) (by omega)]

theorem B64_two_pow : B64 = 2 ^ 64 := rfl
theorem B64_pow (k : Nat) : B64 ^ k = 2 ^ (64 * k) := by rw [B64_two_pow, ← Nat.pow_mul]
theorem bitsN_top {lo x k l : Nat} (hlo : lo < 2 ^ k) (h1 : x < 2 ^ l) (h2 : 2 ^ (l - 1) ≤ x) (hl : l ≠ 0) : bitsN (lo + 2 ^ k * x) = k + l := by
  have hx : 0 < x := Nat.lt_of_lt_of_le (Nat.two_pow_pos _) h2;have hp := Nat.two_pow_pos k;have hk : 2 ^ k * 1 ≤ 2 ^ k * x := Nat.mul_le_mul_left _ hx
  refine bitsN_unique ?_ (fun _ => ?_) (fun e => by omega)
  · have := Nat.mul_le_mul_left (2 ^ k) (show x + 1 ≤ 2 ^ l from h1)
    rw [Nat.mul_add, ← Nat.pow_add] at this; omega
  · have := Nat.mul_le_mul_left (2 ^ k) h2
    rw [← Nat.pow_add] at this
    rw [show k + l - 1 = k + (l - 1) by omega]; omega
theorem bitsN_list {us : List Nat} {m x : Nat} (hd : Dig B64 us) (ht : Top us) (hl : us.length = m) (hm : m ≠ 0) (hx : x = us.getD (m - 1) 0) : bitsN (valB B64 us) = 64 * (m - 1) + bitsN x := by
  have h1 := valB_lt B64_pos (hd.take (m - 1))
  rw [List.length_take, hl, Nat.min_eq_left (by omega), B64_pow] at h1
  have hx0 : x ≠ 0 := by
    rw [hx]
    refine ht _ ?_
    rw [List.getLast?_eq_getElem?, hl, List.getD_eq_getElem?_getD, List.getElem?_eq_getElem (by omega)]; rfl
  have e : valB B64 us = valB B64 (us.take (m - 1)) + B64 ^ (m - 1) * x := by
    have := valB_take_succ B64 us (m - 1) (by omega)
    rw [show m - 1 + 1 = m by omega, List.take_of_length_le (by omega), ← hx] at this
    exact this
  rw [e, B64_pow]
  exact bitsN_top h1 (bitsN_lt x) (bitsN_le x hx0) (by unfold bitsN; rw [if_neg hx0]; omega)

theorem len_any (x : Nat) (w : World) (hx : x < B64) : Calls Tryz.prog 92 #[U x] w fun e w' => e = .returned (.int .i64 (bitsN x)) ∧ w' = w := by
  rw [B64_eq] at hx
  have h := Any.bits_Len64 laysLen (x : Int) w (by omega) (by omega)
  rw [Int.toNat_natCast, bitLen_eq 64 x hx (Nat.le_refl _)] at h
  exact h

theorem bits_any {p : Option Addr} {n c : Nat} {xs : List Nat} {w : World} (h : At w p n c xs) (hn : n ≤ 17592186044416) :
  Calls Tryz.prog 42 #[.slice p n c] w fun e w' => e = .returned (.int .i64 (bitsN (valB B64 xs))) ∧ w' = w := by
 obtain ⟨res, hres⟩ := exq (bitsN (valB B64 xs));rw [← hres]
 have HRES : Hid (res = bitsN (valB B64 (trimL xs))) := by rw [valB_trimL]; exact hres
 clear hres
 go_enter Tryz.func42, Tryz.ntmps42
 go_wp2_with fail
 refine (trim_any h).mono ?_
 rintro e w' ⟨p1, m, rfl, hm, hp, hw⟩;obtain rfl := hw.symm;have A := h.trim hm hp;have tx := Top_trimL xs;have hle := trimL_length_le xs;rw [h.len, ← hm] at hle;clear hw hm hp;generalize trimL xs = us at *
 by_cases h0 : m = 0
 ·subst h0
  have hu : us = [] := List.eq_nil_of_length_eq_zero A.len
  have HR : Hid (res = 0) := by have := HRES.out; rw [hu] at this; exact this
  clear hu;go_wp2_with fail
  go_ret
  exact ⟨ret_int (by have := HR.out; omega), rfl⟩
 ·obtain ⟨g, off, rfl, hc⟩ := A.cells.resolve_left h0
  obtain ⟨x, hx⟩ := exq (us.getD (m - 1) 0)
  have hcx : w.cell? ⟨g, off + (m - 1), none⟩ = some (U x) := by rw [hx]; exact hc _ (by omega)
  have h0' : ((m : Int) == 0) = false := by simp; omega
  have hxb : x < B64 := by rw [hx]; exact A.dig.getD B64_pos _
  have HR : Hid (res = 64 * (m - 1) + bitsN x) := HRES.out.trans (bitsN_list A.dig tx A.len h0 hx)
  have hbx : bitsN x ≤ 64 := by
   have h1 : bitsN x - 1 < 64 ∨ x = 0 := by
    by_cases e : x = 0
    ·exact .inr e
    ·refine .inl ((Nat.pow_lt_pow_iff_right (by decide : 1 < 2)).1 (Nat.lt_of_le_of_lt (bitsN_le x e) ?_))
     rw [B64_two_pow] at hxb; exact hxb
   rcases h1 with h1 | rfl
   ·omega
   ·simp [bitsN]
  clear hc hx;go_wp2_with fail
  refine (len_any x _ hxb).mono ?_
  rintro e w' ⟨rfl, hw⟩;obtain rfl := hw.symm;clear hw;go_wp2_with fail
  go_ret
  exact ⟨ret_int (by have := HR.out; omega), rfl⟩
end Go.Proofs.YtmlclpjimkjjeaaGreatDoor
namespace Go.Proofs.YtmlclpjimkjjeaaGreatDoor
open Go.RowKit
set_option maxRecDepth 20000
set_option maxHeartbeats 0
theorem sub_abs {P A B Z cy : Nat} (hs : Z + B = A + P * cy) (h1 : Z < P) (hc : cy ≤ 1) (h2 : B ≤ A) : Z = A - B := by
  by_cases h : cy = 0
  · subst h; omega
  · obtain rfl : cy = 1 := by omega
    omega

theorem sub_nf {p q : Option Addr} {n m c d : Nat} {xs ys : List Nat} {a b : Nat} {w : World} (h : At w p n c xs) (k : At w q m d ys) (hx : Nf B64 xs a) (hy : Nf B64 ys b) (hlx : n ≤ 8192) (hly : m ≤ 8192) :
    Calls Tryz.prog 88 #[.slice p n c, .slice q m d] w fun e w' =>
      ((b ≤ a ∧ ∃ p m zs, e = .returned (.tuple #[.slice p m m, .int .i64 0]) ∧ Own w.heap.size w' p m zs ∧ Nf B64 zs (a - b) ∧ m ≤ 8192) ∨
       (a < b ∧ e = .returned (.tuple #[.slice none 0 0, .int .i64 3]))) ∧ Below w.heap.size w w' := by
  have fx := hx.form (by rw [h.len]; exact hlx)
  have fy := hy.form (by rw [k.len]; exact hly)
  have HX := hdQ hx;have HY := hdQ hy;clear hx hy
  go_enter Tryz.func88, Tryz.ntmps88
  go_wp2_with fail
  refine (form_true h fx).mono ?_
  rintro e w' ⟨rfl, hw⟩;obtain rfl := hw.symm;clear hw;go_wp2_with fail
  refine (form_true k fy).mono ?_
  rintro e w' ⟨rfl, hw⟩;obtain rfl := hw.symm;clear hw fx fy;go_wp2_with fail
  refine (cmp_any h k).mono ?_
  rintro e w' ⟨rfl, r, hw⟩;obtain rfl := hw.symm;clear hw;rw [HX.out.val, HY.out.val];have hn0 := cmpN_neg a b
  by_cases hlt : a < b
  · have hneg : cmpN a b < 0 := hn0.2 hlt
    clear hn0;go_wp2_with fail
    go_ret2
    exact ⟨.inr ⟨hlt, rfl⟩, bDrewN (Below.refl _ _) r⟩
  · have hneg : ¬ cmpN a b < 0 := mt hn0.1 hlt
    clear hn0;go_wp2_with fail
    refine (copied_any (h.drewN r) n (Nat.le_refl _) (by omega)).mono ?_
    rintro e w1 ⟨g, rfl, hg, hblk, hb⟩;rw [Nat.sub_self, List.replicate_zero, List.append_nil] at hblk;have hr := hblk.row HX.out.dig;rw [h.len] at hr;have h1 := (k.drewN r).below hb
    have hmn : m ≤ n := by
      have l1 := h.len; have l2 := k.len
      by_cases hnm : n < m
      · have := val_lt_len HX.out.dig HY.out.top (by omega)
        rw [HX.out.val, HY.out.val] at this; omega
      · omega
    go_wp2_with fail
    refine (lsub_any g 0 n n _ q m d ys _ hr (Nat.le_refl _) (by omega) h1 hmn (fun g2 off2 hn hp => .inl (k.fresh hg g2 off2 hn hp))).mono ?_
    rintro e w2 ⟨cy, zs, rfl, hcy, hwr, hrow, hsum⟩
    have A2 := hrow.at_ (Nat.le_refl _) (by unfold maxLen; omega)
    have hval : valB B64 zs = a - b := by
      rw [HX.out.val, HY.out.val] at hsum;have h2 := valB_lt B64_pos hrow.dig;rw [hrow.len] at h2
      exact sub_abs hsum h2 hcy (by omega)
    have hN := Nf.trim hrow.dig;rw [hval] at hN;have HV := hdQ hN;have hb2 : Below w.heap.size w w2 := (bDrewN (Below.refl _ _) r).trans (hb.trans (hwr.below hg));clear hsum hval hN hr hblk;go_wp2_with fail
    refine (trim_any A2).mono ?_
    rintro e w3 ⟨p', m', rfl, hm', hp', hw⟩;obtain rfl := hw.symm;have HM : Hid (m' = (trimL zs).length) := hm';clear hw hm';go_wp2_with fail
    go_ret2
    have e1 := HM.out;have e2 := trimL_length_le zs;have e3 := hrow.len
    exact ⟨.inl ⟨by omega, p', m', trimL zs, rfl, hrow.own hg e1 hp', HV.out, by omega⟩, hb2⟩
theorem Ans.ok {B : Nat} {w' : World} {e : Ending} {n : Nat} (h : Ans B w' e n) (hn : n < LIM) : ∃ p m zs, e = .returned (.tuple #[.slice p m m, .int .i64 0]) ∧ Own B w' p m zs ∧ Nf B64 zs n ∧ m ≤ 8192 := by
  rcases h with ⟨_, h⟩ | ⟨h, _⟩
  · exact h
  · omega
theorem Ans.no {B : Nat} {w' : World} {e : Ending} {n : Nat} (h : Ans B w' e n) (hn : LIM ≤ n) : e = .returned (.tuple #[.slice none 0 0, .int .i64 5]) := by
  rcases h with ⟨h, _⟩ | ⟨_, h⟩
  · omega
  · exact h
theorem below1 (w : World) (o : Obj) : Below w.heap.size w (w.alloc o) := (Below.refl _ _).alloc (Nat.le_refl _) o
theorem below2 (w : World) (o o' : Obj) : Below w.heap.size w ((w.alloc o).alloc o') := (below1 w o).alloc (by simp) o'
theorem Below.on {w w1 w2 : World} (h : Below w.heap.size w w1) (k : Below w1.heap.size w1 w2) : Below w.heap.size w w2 := h.trans (k.mono h.size)
theorem nf_one {x : Nat} (h : x < B64) (h0 : x ≠ 0) : Nf B64 [x] x := ⟨dig1 h, by intro y hy; simp at hy; omega, by simp [valB]⟩
theorem same_t {p q : Option Addr} {n m c d : Nat} {xs : List Nat} {w : World} (h : At w p n c xs) (k : At w q m d xs) :
  Calls Tryz.prog 29 #[.slice p n c, .slice q m d] w fun e w' => e = .returned (.bool true) ∧ Below w.heap.size w w' := by
 refine (same_any h k).mono ?_
 rintro e w' ⟨rfl, r, rfl⟩
 exact ⟨ret_bool (by simp), bDrewN (Below.refl _ _) r⟩
theorem word_any (v : Nat) (w : World) (hv : v < B64) :
  Calls Tryz.prog 124 #[U v] w fun e w' => ∃ p m zs, e = .returned (.slice p m m) ∧ Own w.heap.size w' p m zs ∧ Nf B64 zs v ∧ m ≤ 1 ∧ Below w.heap.size w w' := by
 by_cases h0 : v = 0
 ·subst h0
  go_enter Tryz.func124, Tryz.ntmps124
  go_wp2_with fail
  go_ret
  exact ⟨none, 0, [], rfl, ⟨rfl, Dig.nil _, .inl rfl⟩, Nf.nil _, by omega, Below.refl _ _⟩
 ·have h0' : ((v : Int) == 0) = false := by simp; omega
  go_enter Tryz.func124, Tryz.ntmps124
  go_wp2_with fail
  go_ret
  have hbk : Blk (w.alloc (.cells #[U v] 80)) w.heap.size [v] := heap_alloc_new w _
  exact ⟨_, 1, [v], rfl, hbk.own (dig1 hv) (Nat.le_refl _), nf_one hv h0, by omega, below1 w _⟩
structure Num (w : World) (p : Option Addr) (m c : Nat) (xs : List Nat) (a : Nat) : Prop where
 at_ : At w p m c xs
 nf : Nf B64 xs a
 le : m ≤ 8192
theorem Num.below {w w' : World} {p : Option Addr} {m c : Nat} {xs : List Nat} {a : Nat} (h : Num w p m c xs a) (hb : Below w.heap.size w w') : Num w' p m c xs a := ⟨h.at_.below hb, h.nf, h.le⟩
theorem Num.b {w w' : World} {p : Option Addr} {m c : Nat} {xs : List Nat} {a : Nat} (h : Hid (Num w p m c xs a)) (hb : Below w.heap.size w w') : Hid (Num w' p m c xs a) := Num.below h hb
theorem Num.lim {w : World} {p : Option Addr} {m c : Nat} {xs : List Nat} {a : Nat} (h : Num w p m c xs a) : a < LIM := h.nf.lim.1 (by rw [h.at_.len]; exact h.le)
theorem Num.of {B : Nat} {w : World} {p : Option Addr} {m : Nat} {xs : List Nat} {a : Nat} (ho : Own B w p m xs) (hn : Nf B64 xs a) (hm : m ≤ 8192) : Num w p m m xs a := ⟨ho.at_ hm, hn, hm⟩
end Go.Proofs.YtmlclpjimkjjeaaGreatDoor
namespace Go.Proofs.YtmlclpjimkjjeaaGreatDoor
open Go.RowKit Go.Shelf
set_option maxRecDepth 20000
set_option maxHeartbeats 0
def iv (s : Bool) (a : Nat) : Int := if s then -(a : Int) else (a : Int)
theorem iv_t (a : Nat) : iv true a = -(a : Int) := rfl
theorem iv_f (a : Nat) : iv false a = (a : Int) := rfl
abbrev ZV (s : Bool) (p : Option Addr) (n c : Nat) : Value := .agg #[.bool s, .slice p n c]
def AnsI (B : Nat) (w' : World) (e : Ending) (z : Int) : Prop :=
 (z.natAbs < LIM ∧ ∃ p m zs, e = .returned (.tuple #[ZV (decide (z < 0)) p m m, .int .i64 0]) ∧ Own B w' p m zs ∧ Nf B64 zs z.natAbs ∧ m ≤ 8192) ∨
 (LIM ≤ z.natAbs ∧ e = .returned (.tuple #[ZV false none 0 0, .int .i64 5]))
theorem AnsI.ok {B : Nat} {w' : World} {e : Ending} {z : Int} (h : AnsI B w' e z) (hz : z.natAbs < LIM) : ∃ p m zs, e = .returned (.tuple #[ZV (decide (z < 0)) p m m, .int .i64 0]) ∧ Own B w' p m zs ∧ Nf B64 zs z.natAbs ∧ m ≤ 8192 := by
  rcases h with ⟨_, h⟩ | ⟨h, _⟩
  · exact h
  · omega
theorem AnsI.no {B : Nat} {w' : World} {e : Ending} {z : Int} (h : AnsI B w' e z) (hz : LIM ≤ z.natAbs) : e = .returned (.tuple #[ZV false none 0 0, .int .i64 5]) := by
  rcases h with ⟨h, _⟩ | ⟨_, h⟩
  · omega
  · exact h
theorem Num.zero {w : World} {p : Option Addr} {m c : Nat} {xs : List Nat} {a : Nat} (h : Num w p m c xs a) : m = 0 ↔ a = 0 := by
  rw [← h.nf.zero_iff B64_one, ← h.at_.len]
  exact ⟨List.eq_nil_of_length_eq_zero, fun e => by rw [e]; rfl⟩

theorem results_cell1 {fn : Func} {p : Tmp} {ty : TypeId} (h : fn.results = #[.cell p ty]) (tmps : Array Value) (P : Program) (w : World) :
  (results fn tmps).run P w = ((asAddr (tmps.getD p undef)).run P w).andThen fun a w₁ => (loadVar ty a).run P w₁ := by
 simp only [results, h]
 simp [Sem.run_bind, Result.andThen]
theorem signed_any (s : Bool) (p : Option Addr) (m c : Nat) (w : World) :
  Calls Tryz.prog 94 #[.bool s, .slice p m c] w fun e w' => e = .returned (ZV (s && decide (0 < m)) p m c) ∧ Below w.heap.size w w' := by
 cases s
 ·go_enter Tryz.func94, Tryz.ntmps94
  go_wp2_with fail
  refine bodyPost_ret (v := ZV false p m c) ?_ rfl ⟨rfl, below1 w _⟩
  rw [results_cell1 rfl];go_simp
 ·by_cases h : 0 < m
  ·have hd : decide ((0 : Int) < (m : Int)) = true := decide_eq_true (by omega)
   go_enter Tryz.func94, Tryz.ntmps94
   go_wp2_with fail
   refine bodyPost_ret (v := ZV true p m c) ?_ rfl ⟨by simp [h], below1 w _⟩
   rw [results_cell1 rfl];go_simp
  ·have hd : decide ((0 : Int) < (m : Int)) = false := decide_eq_false (by omega)
   have hn : ¬ 0 < m := h
   go_enter Tryz.func94, Tryz.ntmps94
   go_wp2_with fail
   refine bodyPost_ret (v := ZV false p m c) ?_ rfl ⟨by simp [h], below1 w _⟩
   rw [results_cell1 rfl];go_simp
theorem Row.oth {w : World} {g off n : Nat} {xs : List Nat} (h : Row w g off n xs) (g2 o2 : Nat) (v : Value) (hne : g ≠ g2) : Row (w.setCell ⟨g2, o2, none⟩ v) g off n xs := by
  refine ⟨h.len, h.dig, fun j hj => ?_, fun j hj => by rw [World.frozen?_setCell]; exact h.frozen j hj⟩
  exact (World.cell?_setCell_other _ _ _ _ (by intro e; apply hne; have := congrArg Addr.block e; simp at this; omega)).trans (h.cell j hj)
theorem Own.setOld {B : Nat} {w : World} {p : Option Addr} {m : Nat} {zs : List Nat} (h : Own B w p m zs) (g2 o2 : Nat) (v : Value) (hlt : g2 < B) : Own B (w.setCell ⟨g2, o2, none⟩ v) p m zs := by
  refine ⟨h.len, h.dig, ?_⟩
  rcases h.mem with h0 | ⟨g, hp, hg, hr⟩
  · exact .inl h0
  · exact .inr ⟨g, hp, hg, hr.oth g2 o2 v (by omega)⟩
theorem bSet {B : Nat} {a w : World} (h : Below B a w) (g o : Nat) (v : Value) (hB : B ≤ g) : Below B a (w.setCell ⟨g, o, none⟩ v) :=
 h.trans ((Wr.refl g o 1 w).setCell o ⟨by omega, by omega⟩ v |>.below hB)
theorem below3 (w : World) (o1 o2 o3 : Obj) : Below w.heap.size w (((w.alloc o1).alloc o2).alloc o3) := (below2 w o1 o2).alloc (by simp; omega) o3
theorem Nf.lenpos {zs : List Nat} {n m : Nat} (h : Nf B64 zs n) (hl : zs.length = m) : decide (0 < m) = decide (0 < n) := by
  refine decide_eq_decide.2 ?_
  have := h.zero_iff B64_one
  constructor
  · intro hm
    rcases Nat.eq_zero_or_pos n with e | e
    · have := this.2 e; rw [this] at hl; simp at hl; omega
    · exact e
  · intro hn
    rcases Nat.eq_zero_or_pos m with e | e
    · have := this.1 (List.eq_nil_of_length_eq_zero (by omega)); omega
    · exact e

theorem sub_okN {p q : Option Addr} {n m c d : Nat} {xs ys : List Nat} {a b : Nat} {w : World} (h : At w p n c xs) (k : At w q m d ys) (hx : Nf B64 xs a) (hy : Nf B64 ys b) (hn : n ≤ 8192) (hm : m ≤ 8192) (hle : b ≤ a) :
  Calls Tryz.prog 88 #[.slice p n c, .slice q m d] w fun e w' => (∃ p m zs, e = .returned (.tuple #[.slice p m m, .int .i64 0]) ∧ Own w.heap.size w' p m zs ∧ Nf B64 zs (a - b) ∧ m ≤ 8192) ∧ Below w.heap.size w w' := by
 refine (sub_nf h k hx hy hn hm).mono ?_
 rintro e w' ⟨h1 | h1, hb⟩
 ·exact ⟨h1.2, hb⟩
 ·exact absurd h1.1 (by omega)
theorem cmp_wN {p q : Option Addr} {n m c d : Nat} {xs ys : List Nat} {a b : Nat} {w : World} (h : At w p n c xs) (k : At w q m d ys) (hx : Nf B64 xs a) (hy : Nf B64 ys b) :
  Calls Tryz.prog 89 #[.slice p n c, .slice q m d] w fun e w' => e = .returned (.int .i64 (cmpN a b)) ∧ ∃ r, w' = w.drewN r := by
 have := cmp_any h k;rw [hx.val, hy.val] at this; exact this
def renMul : Ren := ⟨fun x => match x with | 264 => 165 | n => n, fun x => match x with | 53 => 80 | 46 => 120 | n => n, fun n => n⟩
theorem laysMul : Lays.n264 Tryz.prog renMul :=
  { mixed := by kernel_rfl, f264 := Tryz.func165.trans (congrArg some (by kernel_rfl)),
    t46 := Tryz.underlying120, a46 := Tryz.isAgg120, z46 := Tryz.sizeOf120, v46 := Tryz.zeroValue120, t53 := Tryz.underlying80, a53 := Tryz.isAgg80, z53 := Tryz.sizeOf80, v53 := Tryz.zeroValue80 }

theorem mul64_ex (x y : Nat) (hx : x < B64) (hy : y < B64) : ∃ hi lo, (∀ w : World, Calls Tryz.prog 165 #[U x, U y] w fun e w' => e = .returned (.tuple #[U hi, U lo]) ∧ w' = w) ∧ x * y = lo + B64 * hi ∧ lo < B64 := by
  refine ⟨x * y / 18446744073709551616, x * y % 18446744073709551616, fun w => ?_, ?_, ?_⟩
  · rw [B64_eq] at hx hy
    exact Any.bits_Mul64 laysMul x y hx hy w
  · rw [B64_eq]; exact (Nat.mod_add_div _ _).symm
  · rw [B64_eq]; exact Nat.mod_lt _ (by decide)

theorem Row.snoc {w : World} {g off m : Nat} {zs : List Nat} (h : Row w g off m zs) {y : Nat} (hc : w.cell? ⟨g, off + m, none⟩ = some (U y)) (hf : w.frozen? ⟨g, off + m, none⟩ = false) (hy : y < B64) : Row w g off (m + 1) (zs ++ [y]) := by
  have hl := h.len
  refine ⟨by simp; omega, h.dig.append (dig1 hy), fun j hj => ?_, fun j hj => ?_⟩
  · by_cases e : j = m
    · subst e
      rw [List.getD_eq_getElem?_getD, List.getElem?_append_right (by omega)]
      simpa [hl] using hc
    · rw [List.getD_eq_getElem?_getD, List.getElem?_append_left (by omega), ← List.getD_eq_getElem?_getD]
      exact h.cell j (by omega)
  · by_cases e : j = m
    · subst e; exact hf
    · exact h.frozen j (by omega)

structure MulRel (w : World) (g off m : Nat) (zs ys : List Nat) (v k cy : Nat) (dk : List Nat) (wr : World) : Prop where
 wrs : Wr g off m w wr
 row : Row wr g off m dk
 hi : dk.drop k = zs.drop k
 car : cy < B64
 sum : valB B64 (dk.take k) + B64 ^ k * cy = valB B64 (zs.take k) + valB B64 (ys.take k) * v

theorem MulRel.step {w : World} {g off m : Nat} {zs ys : List Nat} {v k cy : Nat} {dk : List Nat} {wr : World} (h : MulRel w g off m zs ys v k cy dk wr) (hk : k < m)
  {x z l d : Nat} (hz : z = dk.getD k 0) (hx : x = ys.getD k 0) (hs : x * v + z + cy = l + B64 * d) (hl : l < B64) (hd : d < B64) :
  MulRel w g off m zs ys v (k + 1) d (dk.set k l) (wr.setCell ⟨g, off + k, none⟩ (U l)) := by
 have hlen := h.row.len
 refine ⟨h.wrs.setCell (off + k) ⟨by omega, by omega⟩ _, h.row.set k l hk hl, ?_, hd, ?_⟩
 ·rw [drop_set_lt]; exact drop_succ_of_drop h.hi
 ·have hzz : z = zs.getD k 0 := hz.trans (getD_of_drop h.hi)
  rw [take_set_succ dk k l (by omega), valB_snoc, List.length_take, hlen, Nat.min_eq_left (by omega), valB_take_any _ zs k, valB_take_any _ ys k, ← hzz, ← hx, Nat.pow_succ, Nat.add_mul]
  have e1 := h.sum
  have e2 : B64 ^ k * (x * v + z + cy) = B64 ^ k * (l + B64 * d) := by rw [hs]
  rw [Nat.mul_add, Nat.mul_add, Nat.mul_add, ← Nat.mul_assoc] at e2;have e3 : B64 ^ k * x * v = B64 ^ k * (x * v) := Nat.mul_assoc _ _ _;have e4 : B64 ^ k * B64 * d = B64 ^ k * (B64 * d) := Nat.mul_assoc _ _ _;rw [e3, e4];rw [← Nat.mul_assoc] at e2;generalize B64 ^ k * x * v = X0 at *;generalize B64 ^ k * (x * v) = X1 at *;generalize B64 ^ k * B64 * d = X2 at *;generalize B64 ^ k * (B64 * d) = X3 at *;generalize B64 ^ k * z = X4 at *;generalize B64 ^ k * cy = X5 at *;generalize B64 ^ k * l = X6 at *
  omega
end Go.Proofs.YtmlclpjimkjjeaaGreatDoor
namespace Go.Proofs.YtmlclpjimkjjeaaGreatDoor
open Go.RowKit
set_option maxRecDepth 20000
set_option maxHeartbeats 0
structure Chg (S : Nat → Nat → Prop) (w w' : World) : Prop where
 os : w'.os = w.os
 tape : w'.tape = w.tape
 output : w'.output = w.output
 size : w.heap.size ≤ w'.heap.size
 row : ∀ k cur t fr, w.heap[k]? = some (.cells cur t fr) → ∃ cur', w'.heap[k]? = some (.cells cur' t fr) ∧ cur'.size = cur.size ∧ ∀ j, ¬ S k j → cur'[j]? = cur[j]?
 other : ∀ k, k < w.heap.size → (∀ cur t fr, w.heap[k]? ≠ some (.cells cur t fr)) → w'.heap[k]? = w.heap[k]?

def Rg (g off n : Nat) : Nat → Nat → Prop := fun b o => b = g ∧ off ≤ o ∧ o < off + n
def Dj (g off n g' off' n' : Nat) : Prop := g ≠ g' ∨ off + n ≤ off' ∨ off' + n' ≤ off
theorem Dj.symm {g off n g' off' n' : Nat} (h : Dj g off n g' off' n') : Dj g' off' n' g off n := by unfold Dj at *; omega
theorem Dj.sub {g off n g' off' n' o m : Nat} (h : Dj g off n g' off' n') (h1 : off ≤ o) (h2 : o + m ≤ off + n) : Dj g o m g' off' n' := by unfold Dj at *; omega
theorem Dj.not {g off n g' off' n' j : Nat} (h : Dj g off n g' off' n') (hj : j < n) : ¬ Rg g' off' n' g (off + j) := by unfold Dj Rg at *; omega

theorem Chg.refl (S : Nat → Nat → Prop) (w : World) : Chg S w w := ⟨rfl, rfl, rfl, Nat.le_refl _, fun _ cur _ _ h => ⟨cur, h, rfl, fun _ _ => rfl⟩, fun _ _ _ => rfl⟩
theorem Chg.mono {S S' : Nat → Nat → Prop} {w w' : World} (h : Chg S w w') (hS : ∀ b o, S b o → S' b o) : Chg S' w w' := by
  refine ⟨h.os, h.tape, h.output, h.size, fun k cur t fr hk => ?_, h.other⟩
  obtain ⟨c, h1, h2, h3⟩ := h.row k cur t fr hk
  exact ⟨c, h1, h2, fun j hj => h3 j (fun hs => hj (hS k j hs))⟩
theorem Chg.trans {S : Nat → Nat → Prop} {a b c : World} (h : Chg S a b) (k : Chg S b c) : Chg S a c := by
  refine ⟨k.os.trans h.os, k.tape.trans h.tape, k.output.trans h.output, Nat.le_trans h.size k.size, fun i cur t fr hi => ?_, fun i hi hn => ?_⟩
  · obtain ⟨c1, g1, s1, e1⟩ := h.row i cur t fr hi
    obtain ⟨c2, g2, s2, e2⟩ := k.row i c1 t fr g1
    exact ⟨c2, g2, s2.trans s1, fun j hj => (e2 j hj).trans (e1 j hj)⟩
  · have e1 := h.other i hi hn
    rw [← e1]
    exact k.other i (Nat.lt_of_lt_of_le hi h.size) (by rw [e1]; exact hn)
theorem Wr.chg {g off n : Nat} {w w' : World} (h : Wr g off n w w') : Chg (Rg g off n) w w' := by
  refine ⟨h.os, h.tape, h.output, by rw [h.size]; exact Nat.le_refl _, fun k cur t fr hk => ?_, fun k _ hn => ?_⟩
  · by_cases e : k = g
    · subst e
      obtain ⟨c, h1, h2, h3⟩ := h.row cur t fr hk
      exact ⟨c, h1, h2, fun j hj => h3 j (by unfold Rg at hj; omega)⟩
    · exact ⟨cur, by rw [h.block k e]; exact hk, rfl, fun _ _ => rfl⟩
  · by_cases e : k = g
    · subst e; exact h.other hn
    · exact h.block k e
theorem Chg.drewN {S : Nat → Nat → Prop} {w w' : World} (h : Chg S w w') (q : Nat) : Chg S w (w'.drewN q) := ⟨h.os, h.tape, h.output, h.size, h.row, h.other⟩
theorem Chg.drew {S : Nat → Nat → Prop} {w w' : World} (h : Chg S w w') : Chg S w w'.drew := ⟨h.os, h.tape, h.output, h.size, h.row, h.other⟩
theorem Chg.cell {S : Nat → Nat → Prop} {w w' : World} (h : Chg S w w') {b o : Nat} {v : Value} (hn : ¬ S b o) (hc : w.cell? ⟨b, o, none⟩ = some v) : w'.cell? ⟨b, o, none⟩ = some v := by
  obtain ⟨c, e, fr, hb, hv⟩ := Sort.cells_of_cell? hc;obtain ⟨c', h1, _, h3⟩ := h.row b c e fr hb;rw [cell_of_row w' b o c' e fr h1, h3 o hn]; exact hv
theorem Chg.frozen {S : Nat → Nat → Prop} {w w' : World} (h : Chg S w w') {b o : Nat} {v : Value} (hc : w.cell? ⟨b, o, none⟩ = some v) : w'.frozen? ⟨b, o, none⟩ = w.frozen? ⟨b, o, none⟩ := by
  obtain ⟨c, e, fr, hb, hv⟩ := Sort.cells_of_cell? hc;obtain ⟨c', h1, _, h3⟩ := h.row b c e fr hb
  simp [World.frozen?, hb, h1]
theorem Chg.below {S : Nat → Nat → Prop} {w w' : World} (h : Chg S w w') {B : Nat} (hS : ∀ b o, S b o → B ≤ b) (hB : B ≤ w.heap.size) : Below B w w' := by
  refine ⟨h.os, h.tape, h.output, h.size, fun k hk => ?_⟩
  by_cases hc : ∃ cur t fr, w.heap[k]? = some (.cells cur t fr)
  · obtain ⟨cur, t, fr, hcur⟩ := hc
    obtain ⟨c', h1, h2, h3⟩ := h.row k cur t fr hcur
    have e : c' = cur := by
      apply Array.ext_getElem?
      intro j
      exact h3 j (fun hs => by have := hS k j hs; omega)
    rw [h1, hcur, e]
  · exact h.other k (by omega) (fun cur t fr e => hc ⟨cur, t, fr, e⟩)
theorem Below.chg {w w' : World} (h : Below w.heap.size w w') (S : Nat → Nat → Prop) : Chg S w w' := by
  refine ⟨h.os, h.tape, h.output, h.size, fun k cur t fr hk => ?_, fun k hk _ => h.block k hk⟩
  have hlt : k < w.heap.size := (Array.getElem?_eq_some_iff.1 hk).1
  exact ⟨cur, by rw [h.block k hlt]; exact hk, rfl, fun _ _ => rfl⟩

structure Rd (w : World) (g off n : Nat) (xs : List Nat) : Prop where
 len : xs.length = n
 dig : Dig B64 xs
 cell : ∀ j, j < n → w.cell? ⟨g, off + j, none⟩ = some (U (xs.getD j 0))
theorem Row.rd {w : World} {g off n : Nat} {xs : List Nat} (h : Row w g off n xs) : Rd w g off n xs := ⟨h.len, h.dig, h.cell⟩
theorem Rd.at_ {w : World} {g off n c : Nat} {xs : List Nat} (h : Rd w g off n xs) (hc : n ≤ c) (hb : c ≤ maxLen) : At w (some ⟨g, off, none⟩) n c xs := ⟨h.len, hc, hb, h.dig, .inr ⟨g, off, rfl, h.cell⟩⟩
theorem Rd.chg {w w' : World} {S : Nat → Nat → Prop} {g off n : Nat} {xs : List Nat} (h : Rd w g off n xs) (hc : Chg S w w') (hd : ∀ j, j < n → ¬ S g (off + j)) : Rd w' g off n xs :=
 ⟨h.len, h.dig, fun j hj => hc.cell (hd j hj) (h.cell j hj)⟩
theorem Row.chg {w w' : World} {S : Nat → Nat → Prop} {g off n : Nat} {xs : List Nat} (h : Row w g off n xs) (hc : Chg S w w') (hd : ∀ j, j < n → ¬ S g (off + j)) : Row w' g off n xs :=
 ⟨h.len, h.dig, fun j hj => hc.cell (hd j hj) (h.cell j hj), fun j hj => by rw [hc.frozen (h.cell j hj)]; exact h.frozen j hj⟩
theorem Row.sub {w : World} {g off n : Nat} {xs : List Nat} (h : Row w g off n xs) (k m : Nat) (hkm : k + m ≤ n) : Row w g (off + k) m ((xs.drop k).take m) := by
  have hl := h.len
  refine ⟨by simp; omega, (h.dig.drop k).take m, fun j hj => ?_, fun j hj => by rw [Nat.add_assoc]; exact h.frozen (k + j) (by omega)⟩
  have e : ((xs.drop k).take m).getD j 0 = xs.getD (k + j) 0 := by rw [List.getD_eq_getElem?_getD, List.getD_eq_getElem?_getD, List.getElem?_take, if_pos hj, List.getElem?_drop]
  rw [e, Nat.add_assoc]; exact h.cell (k + j) (by omega)
theorem Rd.sub {w : World} {g off n : Nat} {xs : List Nat} (h : Rd w g off n xs) (k m : Nat) (hkm : k + m ≤ n) : Rd w g (off + k) m ((xs.drop k).take m) := by
  have hl := h.len
  refine ⟨by simp; omega, (h.dig.drop k).take m, fun j hj => ?_⟩
  have e : ((xs.drop k).take m).getD j 0 = xs.getD (k + j) 0 := by rw [List.getD_eq_getElem?_getD, List.getD_eq_getElem?_getD, List.getElem?_take, if_pos hj, List.getElem?_drop]
  rw [e, Nat.add_assoc]; exact h.cell (k + j) (by omega)
theorem Row.join {w : World} {g off n m : Nat} {xs ys : List Nat} (h : Row w g off n xs) (k : Row w g (off + n) m ys) : Row w g off (n + m) (xs ++ ys) := by
  have hl := h.len;have kl := k.len
  refine ⟨by simp; omega, h.dig.append k.dig, fun j hj => ?_, fun j hj => ?_⟩
  · by_cases e : j < n
    · rw [List.getD_eq_getElem?_getD, List.getElem?_append_left (by omega), ← List.getD_eq_getElem?_getD]; exact h.cell j e
    · rw [List.getD_eq_getElem?_getD, List.getElem?_append_right (by omega), ← List.getD_eq_getElem?_getD, hl]
      have := k.cell (j - n) (by omega)
      rw [Nat.add_assoc, show n + (j - n) = j by omega] at this; exact this
  · by_cases e : j < n
    · exact h.frozen j e
    · have := k.frozen (j - n) (by omega)
      rw [Nat.add_assoc, show n + (j - n) = j by omega] at this; exact this
theorem Wr.setCells {g : Nat} : ∀ (vs : List Value) (off : Nat) (w : World), Wr g off vs.length w (w.setCells g off vs)
 | [], off, w => Wr.refl _ _ _ _
 | v :: r, off, w => by
  have h1 : Wr g off (r.length + 1) w (w.setCell ⟨g, off, none⟩ v) := (Wr.refl g off (r.length + 1) w).setCell off ⟨by omega, by omega⟩ v
  have h2 := Wr.setCells (g := g) r (off + 1) (w.setCell ⟨g, off, none⟩ v)
  exact h1.trans (h2.mono (by omega) (by omega))
structure RowsRel (w : World) (g off n m : Nat) (xs ys : List Nat) (i : Nat) (dk : List Nat) (wr : World) : Prop where
 wrs : Wr g off (n + m) w wr
 row : Row wr g off (n + m) dk
 val : valB B64 dk = valB B64 xs * valB B64 (ys.take i)
 top : dk.drop (i + n) = List.replicate (m - i) 0

theorem rows_val {xs ys dk zs2 : List Nat} {n m k cy y : Nat} (hl : dk.length = n + m) (hk : k < m) (hy : y = ys.getD k 0) (hv : valB B64 dk = valB B64 xs * valB B64 (ys.take k)) (ht : dk.drop (k + n) = List.replicate (m - k) 0)
  (hz : zs2.length = n) (hs : valB B64 zs2 + B64 ^ n * cy = valB B64 ((dk.drop k).take n) + valB B64 xs * y) : valB B64 (dk.take k ++ (zs2 ++ [cy] ++ List.replicate (m - k - 1) 0)) = valB B64 xs * valB B64 (ys.take (k + 1)) := by
 have e1 : valB B64 dk = valB B64 (dk.take k) + B64 ^ k * valB B64 ((dk.drop k).take n) := by
  rw [valB_split B64 dk k (by omega), valB_split B64 (dk.drop k) n (by simp; omega), List.drop_drop, ht, valB_replicate]; simp
 rw [valB_append, List.length_take, Nat.min_eq_left (by omega), valB_append_zeros, valB_snoc, hz, hs, valB_take_any _ ys k, ← hy, Nat.mul_add, Nat.mul_add, ← Nat.add_assoc, ← e1, hv]
 rw [show B64 ^ k * (valB B64 xs * y) = valB B64 xs * (B64 ^ k * y) by rw [← Nat.mul_assoc, ← Nat.mul_assoc, Nat.mul_comm (B64 ^ k)]]
theorem RowsRel.step {w : World} {g off n m : Nat} {xs ys : List Nat} {k : Nat} {dk : List Nat} {wr w2 w3 : World} (h : RowsRel w g off n m xs ys k dk wr) (hk : k < m) {y cy : Nat} (hy : y = ys.getD k 0) {zs2 : List Nat} (hcy : cy < B64)
  (hw2 : Wr g (off + k) n wr.drew w2) (hr2 : Row w2 g (off + k) n zs2) (hs : valB B64 zs2 + B64 ^ n * cy = valB B64 ((dk.drop k).take n) + valB B64 xs * y) (hc : w2.cell? ⟨g, off + (k + n), none⟩ = some (U 0)) (hf : w2.frozen? ⟨g, off + (k + n), none⟩ = false)
  (hw3 : w3 = w2.setCell ⟨g, off + (k + n), none⟩ (U cy)) : RowsRel w g off n m xs ys (k + 1) (dk.take k ++ (zs2 ++ [cy] ++ List.replicate (m - k - 1) 0)) w3 := by
 have hl := h.row.len
 have hW23 : Wr g (off + (k + n)) 1 w2 w3 := by rw [hw3]; exact (Wr.refl g (off + (k + n)) 1 w2).setCell _ ⟨by omega, by omega⟩ _
 have hlen2 : (dk.take k ++ (zs2 ++ [cy] ++ List.replicate (m - k - 1) 0)).length = n + m := by simp [hr2.len]; omega
 have lo : Row w3 g off k (dk.take k) := by
  have h0 := (h.row.take k (by omega)).drew
  exact (h0.chg hw2.chg (fun j hj => by unfold Rg; omega)).chg hW23.chg (fun j hj => by unfold Rg; omega)
 have mid : Row w3 g (off + k) n zs2 := hr2.chg hW23.chg (fun j hj => by unfold Rg; omega)
 have one : Row w3 g (off + k) (n + 1) (zs2 ++ [cy]) := by
  refine mid.snoc ?_ ?_ hcy
  ·rw [hw3, Nat.add_assoc]; exact World.cell?_setCell_same _ _ _ hc
  ·rw [hw3, Nat.add_assoc, World.frozen?_setCell]; exact hf
 have hi : Row w3 g (off + k + (n + 1)) (m - k - 1) (List.replicate (m - k - 1) 0) := by
  have h0 := (h.row.sub (k + n + 1) (m - k - 1) (by omega)).drew
  have e : (dk.drop (k + n + 1)).take (m - k - 1) = List.replicate (m - k - 1) 0 := by
   rw [← List.drop_drop, h.top, List.drop_replicate, List.take_replicate]; simp
  rw [e] at h0
  have h1 := (h0.chg hw2.chg (fun j hj => by unfold Rg; omega)).chg hW23.chg (fun j hj => by unfold Rg; omega)
  rw [show off + (k + n + 1) = off + k + (n + 1) by omega] at h1; exact h1
 have all := lo.join (one.join hi)
 rw [show k + (n + 1 + (m - k - 1)) = n + m by omega] at all
 have hWd : Wr g off (n + m) w wr.drew := h.wrs.drew
 refine ⟨(hWd.trans (hw2.mono (by omega) (by omega))).trans (hW23.mono (by omega) (by omega)), all, rows_val hl hk hy h.val h.top hr2.len hs, ?_⟩
 rw [show k + 1 + n = k + (n + 1) by omega, List.drop_append, List.drop_eq_nil_of_le (by simp; omega), List.nil_append, List.length_take, hl, Nat.min_eq_left (by omega), Nat.add_sub_cancel_left, List.drop_append, List.drop_eq_nil_of_le (by simp [hr2.len]), List.nil_append]
 simp [hr2.len]; omega
theorem Row.copied {w : World} {g off n : Nat} {zs : List Nat} (h : Row w g off n zs) (xs : List Nat) (hd : Dig B64 xs) (hx : xs.length ≤ n) : Row (w.setCells g off (cellsU xs)) g off n (xs ++ zs.drop xs.length) := by
  have hl := h.len
  refine ⟨by simp; omega, hd.append (h.dig.drop _), fun j hj => ?_, fun j hj => by rw [World.frozen?_setCells]; exact h.frozen j hj⟩
  by_cases e : j < xs.length
  · have h1 := World.cell?_setCells_in g (cellsU xs) off w (fun i hi => by rw [h.cell i (by rw [cellsU_length] at hi; omega)]; rfl) j (by rw [cellsU_length]; exact e)
    rw [h1, List.getD_eq_getElem?_getD, List.getElem?_append_left e, ← List.getD_eq_getElem?_getD];have := cellsU_get xs j e
    rw [List.getElem?_eq_getElem (by rw [cellsU_length]; exact e)] at this
    exact this
  · rw [World.cell?_setCells_out g (cellsU xs) off w _ (fun _ _ => .inr (by rw [cellsU_length]; simp; omega)), List.getD_eq_getElem?_getD, List.getElem?_append_right (by omega), List.getElem?_drop, show xs.length + (j - xs.length) = j by omega, ← List.getD_eq_getElem?_getD]
    exact h.cell j hj
theorem nb {P Z A L cy : Nat} (hs : Z + L = A + P * cy) (hz : Z < P) (hle : L ≤ A) (hc : cy ≤ 1) : Z + L = A := by
  by_cases h : cy = 0
  · subst h; omega
  · obtain rfl : cy = 1 := by omega
    omega
theorem At.chg {w w' : World} {S : Nat → Nat → Prop} {p : Option Addr} {n c : Nat} {xs : List Nat} (h : At w p n c xs) (hc : Chg S w w') (hd : ∀ g off, p = some ⟨g, off, none⟩ → ∀ j, j < n → g < w.heap.size → ¬ S g (off + j)) : At w' p n c xs := by
  refine ⟨h.len, h.cap, h.big, h.dig, ?_⟩
  rcases h.cells with h0 | ⟨g, off, rfl, hcl⟩
  · exact .inl h0
  · exact .inr ⟨g, off, rfl, fun j hj => hc.cell (hd g off rfl j hj (World.block_lt_of_cell? w _ (hcl j hj))) (hcl j hj)⟩
theorem Nf.big {us : List Nat} {a n : Nat} (h : Nf B64 us a) (hl : us.length = n) (h0 : 0 < n) : B64 ^ (n - 1) ≤ a := by
  have := mt (h.len_le (k := n - 1) B64_one).2 (by omega)
  omega
theorem Nf.zero {us : List Nat} {a : Nat} (h : Nf B64 us a) (hl : us.length = 0) : a = 0 := by
  obtain rfl := List.eq_nil_of_length_eq_zero hl;have := h.val; simp [valB] at this; omega
end Go.Proofs.YtmlclpjimkjjeaaGreatDoor
namespace Go.Proofs.YtmlclpjimkjjeaaGreatDoor
open Go.RowKit Go.Shelf
set_option maxRecDepth 20000
set_option maxHeartbeats 0
structure Box (W : World) (g : Nat) (v0 v1 : Value) : Prop where
 c0 : W.cell? ⟨g, 0, none⟩ = some v0
 c1 : W.cell? ⟨g, 1, none⟩ = some v1
 f0 : W.frozen? ⟨g, 0, none⟩ = false
 f1 : W.frozen? ⟨g, 1, none⟩ = false
theorem Box.below {W W' : World} {g : Nat} {v0 v1 : Value} (h : Box W g v0 v1) (hb : Below W.heap.size W W') : Box W' g v0 v1 := by
  have hl : g < W.heap.size := World.block_lt_of_cell? W _ h.c0
  exact ⟨(hb.cell (p := ⟨g, 0, none⟩) hl).trans h.c0, (hb.cell (p := ⟨g, 1, none⟩) hl).trans h.c1, (hb.frozen (p := ⟨g, 0, none⟩) hl).trans h.f0, (hb.frozen (p := ⟨g, 1, none⟩) hl).trans h.f1⟩
theorem Box.b {W W' : World} {g : Nat} {v0 v1 : Value} (h : Hid (Box W g v0 v1)) (hb : Below W.heap.size W W') : Hid (Box W' g v0 v1) := Box.below h hb
theorem numform_t {p : Option Addr} {n c : Nat} {xs : List Nat} {a : Nat} {w : World} (s : Bool) (h : Num w p n c xs a) (hs : s = true → 0 < a) :
  Calls Tryz.prog 40 #[ZV s p n c] w fun e w' => e = .returned (.bool true) ∧ Below w.heap.size w w' := by
 have fx := h.nf.form (by rw [h.at_.len]; exact h.le)
 have hz := h.zero;have H := hdQ h;clear h
 cases s
 ·clear hs hz
  go_enter Tryz.func40, Tryz.ntmps40
  go_wp2_with fail
  refine (form_true (H.out.at_.alloc _) fx).mono ?_
  rintro e w' ⟨rfl, hw⟩;obtain rfl := hw.symm;clear hw fx;go_wp2_with fail
  go_ret
  exact ⟨rfl, below1 w _⟩
 ·have hn0 : n ≠ 0 := by have := hs rfl; intro e; have := hz.1 e; omega
  have hn0' : ((n : Int) == 0) = false := by simp; omega
  clear hs hz
  go_enter Tryz.func40, Tryz.ntmps40
  go_wp2_with fail
  refine (form_true (H.out.at_.alloc _) fx).mono ?_
  rintro e w' ⟨rfl, hw⟩;obtain rfl := hw.symm;clear hw fx;go_wp2_with fail
  go_ret
  exact ⟨rfl, below1 w _⟩

-- the calls
theorem iv_not (t : Bool) (b : Nat) : iv (!t) b = - iv t b := by cases t <;> simp [iv]
theorem wrap_u (n : Int) (m : Nat) (h : n % 18446744073709551616 = (m : Int)) : IntKind.u64.wrap n = (m : Int) := by
  simp [IntKind.wrap, IntKind.signed, IntKind.bits]
  omega
theorem Box.new (w : World) (ty : TypeId) (v0 v1 : Value) : Box (w.alloc (.cells #[v0, v1] ty)) w.heap.size v0 v1 := ⟨by go_simp, by go_simp, by go_simp, by go_simp⟩
theorem bDrew1 {B : Nat} {a w : World} (h : Below B a w) : Below B a w.drew := ⟨h.os, h.tape, h.output, h.size, h.block⟩
end Go.Proofs.YtmlclpjimkjjeaaGreatDoor
namespace Go.Proofs.YtmlclpjimkjjeaaGreatDoor
open Go.RowKit
set_option maxRecDepth 20000
set_option maxHeartbeats 0
def B32 : Nat := 4294967296
theorem B32_eq : B32 = 4294967296 := rfl
theorem B32_pos : 0 < B32 := by decide
theorem B32_one : 1 < B32 := by decide
theorem B32_two : B32 * B32 = B64 := by decide
abbrev V (n : Nat) : Value := .int .u32 (n : Int)

structure At32 (w : World) (p : Option Addr) (n c : Nat) (xs : List Nat) : Prop where
 len : xs.length = n
 cap : n ≤ c
 big : c ≤ maxLen
 dig : Dig B32 xs
 cells : n = 0 ∨ ∃ g off, p = some ⟨g, off, none⟩ ∧ ∀ j, j < n → w.cell? ⟨g, off + j, none⟩ = some (V (xs.getD j 0))
theorem At32.below {w w' : World} {p : Option Addr} {n c : Nat} {xs : List Nat} (h : At32 w p n c xs) (hb : Below w.heap.size w w') : At32 w' p n c xs := by
  refine ⟨h.len, h.cap, h.big, h.dig, ?_⟩
  rcases h.cells with h0 | ⟨g, off, rfl, hc⟩
  · exact .inl h0
  · exact .inr ⟨g, off, rfl, fun j hj => (hb.cell (p := ⟨g, off + j, none⟩) (World.block_lt_of_cell? w _ (hc j hj))).trans (hc j hj)⟩
theorem At32.b {w w' : World} {p : Option Addr} {n c : Nat} {xs : List Nat} (h : Hid (At32 w p n c xs)) (hb : Below w.heap.size w w') : Hid (At32 w' p n c xs) := At32.below h hb
theorem At32.drewN {w : World} {p : Option Addr} {n c : Nat} {xs : List Nat} (h : At32 w p n c xs) (q : Nat) : At32 (w.drewN q) p n c xs := ⟨h.len, h.cap, h.big, h.dig, h.cells⟩
theorem At32.alloc {w : World} {p : Option Addr} {n c : Nat} {xs : List Nat} (h : At32 w p n c xs) (o : Obj) : At32 (w.alloc o) p n c xs :=
 h.below ((Below.refl _ _).alloc (Nat.le_refl _) o)
theorem At32.take {w : World} {p : Option Addr} {n c : Nat} {xs : List Nat} (h : At32 w p n c xs) (m : Nat) (hm : m ≤ n) (c' : Nat) (hc : m ≤ c') (hb : c' ≤ maxLen) : At32 w p m c' (xs.take m) := by
  refine ⟨by rw [List.length_take, h.len]; omega, hc, hb, h.dig.take m, ?_⟩
  rcases h.cells with h0 | ⟨g, off, rfl, hcl⟩
  · exact .inl (by omega)
  · refine .inr ⟨g, off, rfl, fun j hj => ?_⟩
    have e : (xs.take m).getD j 0 = xs.getD j 0 := by rw [List.getD_eq_getElem?_getD, List.getD_eq_getElem?_getD, List.getElem?_take, if_pos hj]
    rw [e]; exact hcl j (by omega)
theorem At32.empty (w : World) (p : Option Addr) (c : Nat) (hb : c ≤ maxLen) : At32 w p 0 c [] := ⟨rfl, Nat.zero_le _, hb, Dig.nil _, .inl rfl⟩
theorem Tryz.infoU32 : (Tryz.prog.info? 114).map (fun i => (i.zero, i.size, i.bytes)) = some (some (.int .u32 0), 1, 4) := by kernel_rfl
theorem Tryz.sizeU32 : (Tryz.prog.info? 114).map (·.size) = some 1 := by kernel_rfl
def cellsV (xs : List Nat) : List Value := xs.map V
theorem madeV (n : Nat) : (madeCells (Value.cells (.int .u32 0)) (n * 1)).toList = cellsV (List.replicate n 0) := by
  unfold madeCells cellsV
  apply List.ext_getElem
  · simp
  · intro i h1 h2
    have e : i % 1 = 0 := Nat.mod_one i
    simp [Value.cells, V, e]
def Blk32 (w : World) (g : Nat) (xs : List Nat) : Prop := w.heap[g]? = some (.cells (cellsV xs).toArray 114 (0, 0))
theorem cellsV_get (xs : List Nat) (j : Nat) (h : j < xs.length) : (cellsV xs)[j]? = some (V (xs.getD j 0)) := by
  unfold cellsV;rw [List.getElem?_map, List.getElem?_eq_getElem h, List.getD_eq_getElem?_getD, List.getElem?_eq_getElem h]; rfl
theorem Blk32.cell {w : World} {g : Nat} {xs : List Nat} (h : Blk32 w g xs) (j : Nat) (hj : j < xs.length) : w.cell? ⟨g, j, none⟩ = some (V (xs.getD j 0)) := by
  rw [cell_of_row w g j _ _ _ h];rw [List.getElem?_toArray]; exact cellsV_get xs j hj
theorem Blk32.lt {w : World} {g : Nat} {xs : List Nat} (h : Blk32 w g xs) : g < w.heap.size := (Array.getElem?_eq_some_iff.1 h).1
theorem own_blk32 {w : World} {base g n : Nat} {xs : List Nat} (h : w.ownsRow base 114 1 (.slice (some ⟨g, 0, none⟩) n n) n (cellsV xs)) : Blk32 w g xs := by
  rcases h.2 with ⟨h', _⟩ | ⟨g', cap', cur, h', _, hg, _, _, hsz, htake⟩
  · simp at h'
  · simp only [Value.slice.injEq, Option.some.injEq, Addr.mk.injEq, and_true, true_and] at h'
    obtain ⟨rfl, rfl⟩ := h'
    have e : cur = (cellsV xs).toArray := by
      rw [← htake, List.take_of_length_le (by rw [Array.length_toList, hsz]; exact Nat.le_refl _)]
    unfold Blk32; rw [← e]; exact hg
theorem splice_cellsV (n : Nat) (xs : List Nat) : splice (cellsV (List.replicate n 0)) 0 (cellsV xs) = cellsV (xs ++ List.replicate (n - xs.length) 0) := by
  unfold splice cellsV
  simp only [List.take_zero, List.nil_append, List.length_map, Nat.zero_add, List.map_append, List.map_replicate, List.drop_replicate]
theorem made_blk32 {w w1 : World} {n : Nat} (hown : w1.ownsRow w.heap.size 114 1 (.slice (some ⟨w.heap.size, 0, none⟩) n n) n (madeCells (Value.cells (.int .u32 0)) (n * 1)).toList) (hgrow : w.grownBy w1 none) :
  Blk32 w1 w.heap.size (List.replicate n 0) ∧ Below w.heap.size w w1 := by
 rw [madeV] at hown
 exact ⟨own_blk32 hown, (Below.refl _ _).grown hgrow (Nat.le_refl _) (fun k hk => by simp at hk)⟩
theorem cellsV_one (xs : List Nat) : ∀ v ∈ cellsV xs, v.oneCell' = true := by
  intro v hv; unfold cellsV at hv; rw [List.mem_map] at hv; obtain ⟨x, _, rfl⟩ := hv; rfl
theorem cellsV_length (xs : List Nat) : (cellsV xs).length = xs.length := by simp [cellsV]
theorem At32.src {w : World} {p : Option Addr} {n c : Nat} {xs : List Nat} (h : At32 w p n c xs) (hn : 0 < n) : ∃ ad, p = some ad ∧ ∀ j v, (cellsV xs)[j]? = some v → w.cell? (ad.add j) = some v := by
  rcases h.cells with h0 | ⟨g, off, rfl, hc⟩
  · omega
  · refine ⟨_, rfl, fun j v hv => ?_⟩
    have hj : j < xs.length := by
      have := (List.getElem?_eq_some_iff.1 hv).1
      rwa [cellsV_length] at this
    have hadd : (⟨g, off, none⟩ : Addr).add j = ⟨g, off + j, none⟩ := by unfold Addr.add; split <;> simp_all
    rw [hadd, hc j (by have := h.len; omega)]
    rw [cellsV_get xs j hj] at hv; exact hv

theorem Blk32.at_ {w : World} {g : Nat} {xs : List Nat} (h : Blk32 w g xs) (hd : Dig B32 xs) {n : Nat} (hn : xs.length = n) (hb : n ≤ maxLen) : At32 w (some ⟨g, 0, none⟩) n n xs := by
  subst hn
  exact ⟨rfl, Nat.le_refl _, hb, hd, .inr ⟨g, 0, rfl, fun j hj => by rw [Nat.zero_add]; exact h.cell j hj⟩⟩
theorem At32.cellAt {w : World} {g off n c : Nat} {xs : List Nat} (h : At32 w (some ⟨g, off, none⟩) n c xs) (j : Nat) (hj : j < n) : w.cell? ⟨g, off + j, none⟩ = some (V (xs.getD j 0)) := by
  obtain ⟨g', o', he, hcell⟩ := h.cells.resolve_left (by omega)
  simp only [Option.some.injEq, Addr.mk.injEq, and_true] at he
  obtain ⟨rfl, rfl⟩ := he
  exact hcell j hj

def dig32 : List Nat → List Nat
 | [] => []
 | x :: xs => x % B32 :: x / B32 :: dig32 xs
theorem dig32_val (xs : List Nat) : valB B32 (dig32 xs) = valB B64 xs := by
  induction xs with
  | nil => rfl
  | cons x xs ih =>
    show x % B32 + B32 * (x / B32 + B32 * valB B32 (dig32 xs)) = x + B64 * valB B64 xs
    rw [ih, Nat.mul_add, ← Nat.mul_assoc, B32_two];have := Nat.mod_add_div x B32
    omega
theorem dig32_len (xs : List Nat) : (dig32 xs).length = 2 * xs.length := by
  induction xs with
  | nil => rfl
  | cons x xs ih => show (dig32 xs).length + 1 + 1 = 2 * (xs.length + 1); omega
theorem dig32_dig {xs : List Nat} (h : Dig B64 xs) : Dig B32 (dig32 xs) := by
  induction xs with
  | nil => exact Dig.nil _
  | cons x xs ih =>
    refine Dig.cons (Nat.mod_lt _ B32_pos) (Dig.cons ?_ (ih h.tail))
    refine Nat.div_lt_of_lt_mul ?_
    rw [B32_two]; exact h.head
theorem dig32_append (xs ys : List Nat) : dig32 (xs ++ ys) = dig32 xs ++ dig32 ys := by
  induction xs with
  | nil => rfl
  | cons x xs ih => show _ :: _ :: dig32 (xs ++ ys) = _; rw [ih]; rfl
theorem dig32_snoc (xs : List Nat) (k : Nat) (h : k < xs.length) : dig32 (xs.take (k + 1)) = dig32 (xs.take k) ++ [xs.getD k 0 % B32, xs.getD k 0 / B32] := by
  rw [take_succ_getD xs k h, dig32_append]; rfl

theorem rnorm_any {p : Option Addr} {n c : Nat} {xs : List Nat} {w : World} (h : At32 w p n c xs) (hn : n ≤ 35184372088832) :
  Calls Tryz.prog 97 #[.slice p n c] w fun e w' =>
   ∃ g, e = .returned (.slice (some ⟨g, 0, none⟩) (trimL xs).length (trimL xs).length) ∧ w.heap.size ≤ g ∧ Blk32 w' g (trimL xs) ∧ Below w.heap.size w w' := by
 obtain ⟨i0, hi, hz0, hz1, hz2⟩ := info_parts Tryz.infoU32;have hl := h.len; have cap := h.cap; have big := h.big;unfold maxLen at big;have HL : Hid (xs.length = n) := hl;clear hl
 go_enter Tryz.func97, Tryz.ntmps97
 go_wp2
 go_loopg [3] n (fun gk nv wr => nv = .int .i64 gk ∧ gk ≤ n ∧ Hid (∀ j, gk ≤ j → j < n → xs.getD j 0 = 0) ∧ wr = w)
 case atStart => exact ⟨rfl, Nat.le_refl _, fun j h1 h2 => absurd h1 (by omega), rfl⟩
 case round =>
  obtain ⟨rfl, hgn, HZ, hwr⟩ := hrel;obtain rfl := hwr.symm;clear hwr
  by_cases hg0 : gk = 0
  ·have HG0 : Hid (gk = 0) := hg0
   have hng : ¬ 0 < gk := by omega
   have hgc : gk ≤ c := by omega
   clear hg0
   cases p
   ·have ht : trimL xs = xs.take gk := trimL_of_take xs gk (by rw [HL.out]; omega) (fun j h1 h2 => HZ.out j h1 (by rw [← HL.out]; exact h2)) (.inl HG0.out)
    have hlt : (trimL xs).length = gk := by rw [ht, List.length_take, HL.out]; omega
    have HT : Hid (trimL xs = xs.take gk) := ht;have HLT : Hid ((trimL xs).length = gk) := hlt
    have hA := h.take gk (by omega) c (by omega) (by unfold maxLen; omega)
    clear ht hlt h
    go_wp2_with (first
     | (at_make; refine wpList_make_full _ rfl _ _ 54 rfl w.heap.size 114 i0 (.int .u32 0) 1 Tryz.underlying54 hi hz0 hz1 _ _ _ _ gk rfl rfl (by omega) (by omega) (by rw [hz2]; omega) (by unfold maxLen; omega) (Nat.le_refl _) ?_; intro w1 hown hgrow; have hb := made_blk32 hown hgrow; clear hown hgrow)
     | (refine wpList_copy_splice rfl (.tmp 21) (.tmp 24) 54 54 rfl 114 Tryz.underlying54 Tryz.sizeU32 (some ⟨w.heap.size, 0, none⟩) _ gk gk gk c rfl rfl w.heap.size 0 (cellsV (List.replicate gk 0)) 114 hb.1 (cellsV (xs.take gk)) (by rw [cellsV_length, hA.len]; exact (Nat.min_self gk).symm) (fun h0 => ⟨rfl, (hA.below hb.2).src (by rw [cellsV_length, hA.len] at h0; exact h0)⟩) (by simp [cellsV_length]; omega) (cellsV_one _) w.heap.size w hb.2 (Nat.le_refl _) ?_; intro w2 hg2 hb2))
    go_ret
    rw [HLT.out, HT.out]
    refine ⟨_, rfl, Nat.le_refl _, ?_, hb2⟩
    rw [splice_cellsV, hA.len, Nat.sub_self, List.replicate_zero, List.append_nil] at hg2
    exact hg2
   ·have ht : trimL xs = xs.take gk := trimL_of_take xs gk (by rw [HL.out]; omega) (fun j h1 h2 => HZ.out j h1 (by rw [← HL.out]; exact h2)) (.inl HG0.out)
    have hlt : (trimL xs).length = gk := by rw [ht, List.length_take, HL.out]; omega
    have HT : Hid (trimL xs = xs.take gk) := ht;have HLT : Hid ((trimL xs).length = gk) := hlt
    have hA := h.take gk (by omega) c (by omega) (by unfold maxLen; omega)
    clear ht hlt h
    go_wp2_with (first
     | (at_make; refine wpList_make_full _ rfl _ _ 54 rfl w.heap.size 114 i0 (.int .u32 0) 1 Tryz.underlying54 hi hz0 hz1 _ _ _ _ gk rfl rfl (by omega) (by omega) (by rw [hz2]; omega) (by unfold maxLen; omega) (Nat.le_refl _) ?_; intro w1 hown hgrow; have hb := made_blk32 hown hgrow; clear hown hgrow)
     | (refine wpList_copy_splice rfl (.tmp 21) (.tmp 24) 54 54 rfl 114 Tryz.underlying54 Tryz.sizeU32 (some ⟨w.heap.size, 0, none⟩) _ gk gk gk c rfl rfl w.heap.size 0 (cellsV (List.replicate gk 0)) 114 hb.1 (cellsV (xs.take gk)) (by rw [cellsV_length, hA.len]; exact (Nat.min_self gk).symm) (fun h0 => ⟨rfl, (hA.below hb.2).src (by rw [cellsV_length, hA.len] at h0; exact h0)⟩) (by simp [cellsV_length]; omega) (cellsV_one _) w.heap.size w hb.2 (Nat.le_refl _) ?_; intro w2 hg2 hb2))
    go_ret
    rw [HLT.out, HT.out]
    refine ⟨_, rfl, Nat.le_refl _, ?_, hb2⟩
    rw [splice_cellsV, hA.len, Nat.sub_self, List.replicate_zero, List.append_nil] at hg2
    exact hg2
  ·obtain ⟨g, off, rfl, hc⟩ := h.cells.resolve_left (by omega)
   obtain ⟨x, hx⟩ := exq (xs.getD (gk - 1) 0)
   have hcx : w.cell? ⟨g, off + (gk - 1), none⟩ = some (V x) := by rw [hx]; exact hc (gk - 1) (by omega)
   have hdg : decide ((0 : Int) < (gk : Int)) = true := decide_eq_true (by omega)
   have HX : Hid (x = xs.getD (gk - 1) 0) := hx;clear hc hx
   by_cases h0 : x = 0
   ·subst h0
    go_wp2_with fail
    go_roundg (gk - 1)
    case measure => omega
    case rel =>
     refine ⟨by go_num, by omega, fun j h1 h2 => ?_, rfl⟩
     by_cases hj : j = gk - 1
     ·subst hj; exact HX.out.symm
     ·exact HZ.out j (by omega) h2
   ·have h0' : ((x : Int) == 0) = false := by simp; omega
    have hgc : gk ≤ c := by omega
    have HXN : Hid (xs.getD (gk - 1) 0 ≠ 0) := by rw [← HX.out]; exact h0
    clear h0
    have ht : trimL xs = xs.take gk := trimL_of_take xs gk (by rw [HL.out]; omega) (fun j h1 h2 => HZ.out j h1 (by rw [← HL.out]; exact h2)) (.inr HXN.out)
    have hlt : (trimL xs).length = gk := by rw [ht, List.length_take, HL.out]; omega
    have HT : Hid (trimL xs = xs.take gk) := ht;have HLT : Hid ((trimL xs).length = gk) := hlt
    have hA := h.take gk (by omega) c (by omega) (by unfold maxLen; omega)
    clear ht hlt h
    go_wp2_with (first
     | (at_make; refine wpList_make_full _ rfl _ _ 54 rfl w.heap.size 114 i0 (.int .u32 0) 1 Tryz.underlying54 hi hz0 hz1 _ _ _ _ gk rfl rfl (by omega) (by omega) (by rw [hz2]; omega) (by unfold maxLen; omega) (Nat.le_refl _) ?_; intro w1 hown hgrow; have hb := made_blk32 hown hgrow; clear hown hgrow)
     | (refine wpList_copy_splice rfl (.tmp 21) (.tmp 24) 54 54 rfl 114 Tryz.underlying54 Tryz.sizeU32 (some ⟨w.heap.size, 0, none⟩) _ gk gk gk c rfl rfl w.heap.size 0 (cellsV (List.replicate gk 0)) 114 hb.1 (cellsV (xs.take gk)) (by rw [cellsV_length, hA.len]; exact (Nat.min_self gk).symm) (fun h0 => ⟨rfl, (hA.below hb.2).src (by rw [cellsV_length, hA.len] at h0; exact h0)⟩) (by simp [cellsV_length]; omega) (cellsV_one _) w.heap.size w hb.2 (Nat.le_refl _) ?_; intro w2 hg2 hb2))
    go_ret
    rw [HLT.out, HT.out]
    refine ⟨_, rfl, Nat.le_refl _, ?_, hb2⟩
    rw [splice_cellsV, hA.len, Nat.sub_self, List.replicate_zero, List.append_nil] at hg2
    exact hg2
theorem B64_p : B64 = 2 ^ 64 := rfl
theorem pow_split (s : Nat) (hs : s ≤ 64) : 2 ^ s * 2 ^ (64 - s) = B64 := by rw [← Nat.pow_add, show s + (64 - s) = 64 by omega]; rfl

def shlW (x s : Nat) : Nat := x * 2 ^ s % B64
theorem shlW_lt (x s : Nat) : shlW x s < B64 := Nat.mod_lt _ B64_pos
theorem shlW_eq (x s : Nat) (hs : s ≤ 64) : shlW x s = 2 ^ s * (x % 2 ^ (64 - s)) := by
  unfold shlW;rw [← pow_split s hs, Nat.mul_comm x, Nat.mul_mod_mul_left]
theorem shrW_eq (y s : Nat) (hs : s ≤ 64) : y / 2 ^ (64 - s) = y * 2 ^ s / B64 := by
  rw [← pow_split s hs, Nat.mul_comm y, Nat.mul_div_mul_left _ _ (Nat.two_pow_pos s)]
theorem shrW_lt (y s : Nat) (hs : s ≤ 64) (hy : y < B64) : y / 2 ^ (64 - s) < 2 ^ s := by
  rw [Nat.div_lt_iff_lt_mul (Nat.two_pow_pos _), pow_split s hs]; exact hy
theorem or_low (s A b : Nat) (hb : b < 2 ^ s) : (2 ^ s * A) ||| b = 2 ^ s * A + b := (Nat.two_pow_add_eq_or_of_lt hb A).symm

theorem int_pow (s : Nat) : ((2 : Int) ^ s) = ((2 ^ s : Nat) : Int) := by
  induction s with
  | zero => rfl
  | succ s ih => rw [Int.pow_succ, ih, Nat.pow_succ]; simp
theorem walk_shl (x s : Nat) : Value.int .u64 (IntKind.u64.wrap ((x : Int) * 2 ^ s)) = U (shlW x s) := by
  unfold U shlW;rw [int_pow, IntKind.wrap_u64, B64_eq, ← Int.natCast_mul]
  congr 1
theorem walk_shr (y s : Nat) : Value.int .u64 ((y : Int) / 2 ^ s) = U (y / 2 ^ s) := by
  unfold U;rw [int_pow]
  congr 1
theorem walk_or (a b : Nat) (ha : a < B64) (hb : b < B64) : bits .or .u64 (a : Int) (b : Int) = ((a ||| b : Nat) : Int) := by
  rw [B64_eq] at ha hb
  exact bits_or_u64_nat a b ha hb
theorem wrap_nat (x s : Nat) : IntKind.u64.wrap ((x : Int) * 2 ^ s) = ((shlW x s : Nat) : Int) := by
  have := walk_shl x s
  simpa [U] using this
theorem div_nat (y s : Nat) : (y : Int) / 2 ^ s = ((y / 2 ^ s : Nat) : Int) := by
  simp
theorem walk_up (x y s : Nat) (hs : s ≤ 64) (hy : y < B64) : Value.int .u64 (bits .or .u64 (IntKind.u64.wrap ((x : Int) * 2 ^ s)) ((y : Int) / 2 ^ (64 - s))) = U (shlW x s + y * 2 ^ s / B64) := by
  have h1 := shrW_lt y s hs hy
  have h2 : 2 ^ s ≤ B64 := by rw [B64_p]; exact Nat.pow_le_pow_right (by decide) hs
  rw [wrap_nat, div_nat, walk_or _ _ (shlW_lt x s) (by omega), shlW_eq x s hs, or_low s _ _ h1, shrW_eq y s hs]
theorem up_lt (x y s : Nat) (hs : s ≤ 64) (hy : y < B64) : shlW x s + y * 2 ^ s / B64 < B64 := by
  have h1 := shrW_lt y s hs hy;rw [← shrW_eq y s hs, shlW_eq x s hs];have h2 : x % 2 ^ (64 - s) + 1 ≤ 2 ^ (64 - s) := Nat.mod_lt _ (Nat.two_pow_pos _);have h3 := Nat.mul_le_mul_left (2 ^ s) h2;rw [pow_split s hs, Nat.mul_add] at h3
  omega
theorem walk_down (x z s : Nat) (hs : s ≤ 64) (hx : x < B64) : Value.int .u64 (bits .or .u64 ((x : Int) / 2 ^ s) (IntKind.u64.wrap ((z : Int) * 2 ^ (64 - s)))) = U (x / 2 ^ s + 2 ^ (64 - s) * (z % 2 ^ s)) := by
  have e : 64 - (64 - s) = s := by omega
  have h1 := shrW_lt x (64 - s) (by omega) hx
  rw [e] at h1
  have h2 : 2 ^ (64 - s) ≤ B64 := by rw [B64_p]; exact Nat.pow_le_pow_right (by decide) (by omega)
  rw [wrap_nat, div_nat, walk_or _ _ (by omega) (shlW_lt _ _), shlW_eq z (64 - s) (by omega), e, Nat.or_comm, or_low (64 - s) _ _ h1, Nat.add_comm]
theorem down_lt (x z s : Nat) (hs : s ≤ 64) (hx : x < B64) : x / 2 ^ s + 2 ^ (64 - s) * (z % 2 ^ s) < B64 := by
  have e : 64 - (64 - s) = s := by omega
  have h1 := shrW_lt x (64 - s) (by omega) hx
  rw [e] at h1;have h2 : z % 2 ^ s + 1 ≤ 2 ^ s := Nat.mod_lt _ (Nat.two_pow_pos _);have h3 := Nat.mul_le_mul_left (2 ^ (64 - s)) h2;rw [Nat.mul_comm (2 ^ (64 - s)) (2 ^ s), pow_split s hs, Nat.mul_add] at h3
  omega

def cin (zs : List Nat) (s j : Nat) : Nat := if j = 0 then 0 else zs.getD (j - 1) 0 * 2 ^ s / B64
theorem up_step {zs T : List Nat} {s a ov k d : Nat} (ha : a < zs.length) (hd : d = shlW (zs.getD a 0) s + cin zs s a) (h : valB B64 T + B64 ^ k * ov = 2 ^ s * valB B64 (zs.drop (a + 1)) + cin zs s (a + 1)) :
  valB B64 (d :: T) + B64 ^ (k + 1) * ov = 2 ^ s * valB B64 (zs.drop a) + cin zs s a := by
 have e1 : cin zs s (a + 1) = zs.getD a 0 * 2 ^ s / B64 := by unfold cin; rw [if_neg (by omega), Nat.add_sub_cancel]
 have e2 := Nat.mod_add_div (zs.getD a 0 * 2 ^ s) B64;rw [valB_cons, valB_drop _ zs a ha, hd];unfold shlW;rw [e1] at h
 have e3 : B64 * (valB B64 T + B64 ^ k * ov) = B64 * (2 ^ s * valB B64 (zs.drop (a + 1)) + zs.getD a 0 * 2 ^ s / B64) := by rw [h]
 rw [Nat.mul_add, Nat.mul_add] at e3;rw [Nat.pow_succ, Nat.mul_add]
 have e4 : B64 ^ k * B64 * ov = B64 * (B64 ^ k * ov) := by rw [Nat.mul_comm (B64 ^ k) B64, Nat.mul_assoc]
 have e5 : 2 ^ s * (B64 * valB B64 (zs.drop (a + 1))) = B64 * (2 ^ s * valB B64 (zs.drop (a + 1))) := by rw [← Nat.mul_assoc, ← Nat.mul_assoc, Nat.mul_comm (2 ^ s) B64]
 rw [e4, e5, Nat.mul_comm (2 ^ s) (zs.getD a 0)];generalize B64 * (B64 ^ k * ov) = X1 at *;generalize B64 * (2 ^ s * valB B64 (zs.drop (a + 1))) = X2 at *;generalize B64 * valB B64 T = X3 at *;generalize B64 * (zs.getD a 0 * 2 ^ s / B64) = X4 at *;generalize zs.getD a 0 * 2 ^ s = X5 at *
 omega

def cout (zs : List Nat) (s j : Nat) : Nat := zs.getD j 0 % 2 ^ s
theorem down_step {zs dk : List Nat} {s i rem d : Nat} (hs : s ≤ 64) (hd : d = zs.getD i 0 / 2 ^ s + 2 ^ (64 - s) * cout zs s (i + 1)) (h : 2 ^ s * valB B64 (dk.take i) + rem = valB B64 (zs.take i) + B64 ^ i * cout zs s i) (hi : i < zs.length) :
  2 ^ s * (valB B64 (dk.take i) + B64 ^ i * d) + rem = valB B64 (zs.take (i + 1)) + B64 ^ (i + 1) * cout zs s (i + 1) := by
 have e1 := Nat.mod_add_div (zs.getD i 0) (2 ^ s);rw [valB_take_succ _ zs i hi, Nat.pow_succ, hd, Nat.mul_add (2 ^ s)]
 have e2 : 2 ^ s * (B64 ^ i * (zs.getD i 0 / 2 ^ s + 2 ^ (64 - s) * cout zs s (i + 1))) = B64 ^ i * (2 ^ s * (zs.getD i 0 / 2 ^ s)) + B64 ^ i * B64 * cout zs s (i + 1) := by
  rw [← Nat.mul_assoc, Nat.mul_comm (2 ^ s) (B64 ^ i), Nat.mul_assoc, Nat.mul_add, Nat.mul_add, ← Nat.mul_assoc (2 ^ s) (2 ^ (64 - s)), pow_split s hs, Nat.mul_assoc]
 have e3 : B64 ^ i * (zs.getD i 0 % 2 ^ s) + B64 ^ i * (2 ^ s * (zs.getD i 0 / 2 ^ s)) = B64 ^ i * zs.getD i 0 := by rw [← Nat.mul_add, e1]
 rw [e2];have e4 : cout zs s i = zs.getD i 0 % 2 ^ s := rfl;rw [e4] at h;generalize B64 ^ i * (2 ^ s * (zs.getD i 0 / 2 ^ s)) = X1 at *;generalize B64 ^ i * (zs.getD i 0 % 2 ^ s) = X2 at *;generalize B64 ^ i * B64 * cout zs s (i + 1) = X3 at *
 omega
end Go.Proofs.YtmlclpjimkjjeaaGreatDoor
namespace Go.Proofs.YtmlclpjimkjjeaaGreatDoor
set_option maxRecDepth 20000
set_option maxHeartbeats 0
theorem kn_init {b y1 y0 u d : Nat} (hd : d < b) (hu : u < y1 * b + y0) (h0 : y0 < b) (h1 : b ≤ 2 * y1) : (u * b + d) / (y1 * b + y0) ≤ u / y1 ∧ u / y1 ≤ b + 1 := by
  have hy1 : 0 < y1 := by omega
  have hY : 0 < y1 * b + y0 := by
    have := Nat.mul_pos hy1 (show 0 < b by omega)
    omega
  have hm := Nat.div_add_mod u y1;have hl := Nat.mod_lt u hy1
  refine ⟨?_, ?_⟩
  · refine Nat.le_of_lt_succ ((Nat.div_lt_iff_lt_mul hY).2 ?_)
    have a1 : (u + 1) * b ≤ (u / y1 + 1) * y1 * b := by
      refine Nat.mul_le_mul_right b ?_
      rw [Nat.add_mul, Nat.one_mul, Nat.mul_comm (u / y1) y1]; omega
    have a2 : (u / y1 + 1) * (y1 * b + y0) = (u / y1 + 1) * y1 * b + (u / y1 + 1) * y0 := by rw [Nat.mul_add, Nat.mul_assoc]
    rw [Nat.succ_eq_add_one, a2];rw [Nat.add_mul, Nat.one_mul] at a1
    omega
  · refine Nat.le_of_lt_succ ((Nat.div_lt_iff_lt_mul hy1).2 ?_)
    have : (b + 1).succ * y1 = y1 * b + 2 * y1 := by rw [Nat.succ_eq_add_one, show b + 1 + 1 = b + 2 by omega, Nat.add_mul, Nat.mul_comm b y1]
    rw [this]; omega
theorem kn_more {b y1 y0 u d q r : Nat} (hd : d < b) (hu : u < y1 * b + y0) (hq : q * y1 + r = u) (hc : b ≤ q ∨ b * r + d < q * y0) : (u * b + d) / (y1 * b + y0) + 1 ≤ q := by
  refine (Nat.div_lt_iff_lt_mul (by omega)).2 ?_
  rcases hc with hc | hc
  · have a1 : b * (y1 * b + y0) ≤ q * (y1 * b + y0) := Nat.mul_le_mul_right _ hc
    have a2 : b * (u + 1) ≤ b * (y1 * b + y0) := Nat.mul_le_mul_left _ hu;rw [Nat.mul_add, Nat.mul_one, Nat.mul_comm b u] at a2
    omega
  · have a1 : q * (y1 * b + y0) = q * y1 * b + q * y0 := by rw [Nat.mul_add, Nat.mul_assoc]
    have a2 : u * b = q * y1 * b + r * b := by rw [← hq, Nat.add_mul]
    rw [Nat.mul_comm b r] at hc
    omega
theorem kn_exit {b y1 y0 u d q r : Nat} (hu : u < y1 * b + y0) (hq : q * y1 + r = u) (hQ : (u * b + d) / (y1 * b + y0) ≤ q) (hc : q * y0 ≤ b * r + d) : q = (u * b + d) / (y1 * b + y0) := by
  refine Nat.le_antisymm ((Nat.le_div_iff_mul_le (by omega)).2 ?_) hQ
  have a1 : q * (y1 * b + y0) = q * y1 * b + q * y0 := by rw [Nat.mul_add, Nat.mul_assoc]
  have a2 : u * b = q * y1 * b + r * b := by rw [← hq, Nat.add_mul]
  rw [Nat.mul_comm b r] at hc
  omega
theorem kn_far {b y0 d q r : Nat} (h0 : y0 < b) (hq : q ≤ b) (hr : b ≤ r) : q * y0 ≤ b * r + d := by
  have a1 : q * y0 ≤ b * b := Nat.mul_le_mul hq (by omega)
  have a2 : b * b ≤ b * r := Nat.mul_le_mul_left b hr
  omega
theorem kn_lt {b y1 y0 u d : Nat} (hd : d < b) (hu : u < y1 * b + y0) : (u * b + d) / (y1 * b + y0) < b := by
  refine (Nat.div_lt_iff_lt_mul (by omega)).2 ?_
  have a2 : b * (u + 1) ≤ b * (y1 * b + y0) := Nat.mul_le_mul_left _ hu;rw [Nat.mul_add, Nat.mul_one, Nat.mul_comm b u] at a2
  omega

theorem kn_join {b Y u un1 un0 q1 q0 r1 r0 : Nat} (h1 : u * b + un1 = q1 * Y + r1) (h0 : r1 * b + un0 = q0 * Y + r0) : u * (b * b) + (un1 * b + un0) = (q1 * b + q0) * Y + r0 := by
  have e1 : (u * b + un1) * b = (q1 * Y + r1) * b := by rw [h1]
  rw [Nat.add_mul, Nat.add_mul] at e1;have e2 : u * b * b = u * (b * b) := Nat.mul_assoc _ _ _
  have e3 : q1 * Y * b = q1 * b * Y := by rw [Nat.mul_assoc, Nat.mul_comm Y b, ← Nat.mul_assoc]
  rw [Nat.add_mul]
  omega
theorem kn_scale {P y n q r0 : Nat} (hP : 0 < P) (h : P * n = q * (y * P) + r0) (hr : r0 < y * P) : n = q * y + r0 / P ∧ r0 / P < y := by
  have e : q * (y * P) = P * (q * y) := by rw [← Nat.mul_assoc, Nat.mul_comm]
  rw [e] at h
  have hd : P ∣ r0 := by
    have : r0 = P * n - P * (q * y) := by omega
    rw [this, ← Nat.mul_sub]; exact Nat.dvd_mul_right _ _
  obtain ⟨t, rfl⟩ := hd;rw [Nat.mul_div_cancel_left _ hP];rw [← Nat.mul_add] at h
  refine ⟨Nat.eq_of_mul_eq_mul_left hP h, ?_⟩
  rw [Nat.mul_comm y P] at hr
  exact Nat.lt_of_mul_lt_mul_left hr
end Go.Proofs.YtmlclpjimkjjeaaGreatDoor
