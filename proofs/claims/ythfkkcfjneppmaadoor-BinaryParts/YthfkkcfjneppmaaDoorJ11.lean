import Derived.Test.YthfkkcfjneppmaaDoorOpenS
import Derived.Test.YthfkkcfjneppmaaDoorJ10
import Derived.Deep.Slices
import Derived.BigQuiet
import Derived.Test.YthfkkcfjneppmaaDoorJ8
import Derived.Test.YthfkkcfjneppmaaDoorJ9
import Derived.Deep.LoopGhost
import Derived.Deep.RegionWith
import Derived.Test.YthfkkcfjneppmaaDoorVal
namespace Go.Proofs.YthfkkcfjneppmaaDoor
open Go.ChangeShapes Go.WideShapes Go.ChangeAt Go.RowKit Go.Deep
set_option maxRecDepth 20000
set_option maxHeartbeats 0
theorem cellsOfOp7 : Tryd.prog.cellsOf 44 = 5 := by kernel_rfl
theorem oneCellOp7 {fs : Array Field} (h : Tryd.prog.underlying 44 = some (.struct fs)) : oneCellFields Tryd.prog fs = true := by
  have : (match Tryd.prog.underlying 44 with | some (.struct fs) => oneCellFields Tryd.prog fs | _ => false) = true := by kernel_rfl
  rw [h] at this
  exact this

theorem open_script7 {H : Type} {enc : TypeId × Value → H} {W : World} {a : Option Addr} {len cap : Nat} {d : DataW H} {ps : List MemPlace}
    (h : DataW.Trod enc Tryd.prog W 0 (fun _ => true) true 22 (.slice a len cap) d ps) : ∃ its, Scr7 W a len cap its := by
  obtain ⟨fuel, hf⟩ := h
  rcases DataW.trod_slice Tryd.underlying22 hf with ⟨hcs, _⟩ | ⟨x, l, c, elems, rest, n, _, hcs, hx, hb, hl, hm, hlen, hel, _, _⟩
  · simp [Value.cells] at hcs
    obtain ⟨rfl, rfl, rfl⟩ := hcs
    exact ⟨[], rfl, Nat.le_refl _, by decide, fun t h => by simp at h, .inl rfl⟩
  · simp [Value.cells] at hcs
    obtain ⟨rfl, rfl, rfl⟩ := hcs
    simp only [Prod.mk.injEq] at hx
    obtain ⟨rfl, _⟩ := hx
    obtain ⟨b, off, spot⟩ := x
    have each : ∀ i, i < len → ∃ t : Op7, (W.cell? ((⟨b, off, spot⟩ : Addr).add (i * 5 + 0)) = some (.int .i64 t.k) ∧ W.cell? ((⟨b, off, spot⟩ : Addr).add (i * 5 + 1)) = some (.int .i64 t.f) ∧
        W.cell? ((⟨b, off, spot⟩ : Addr).add (i * 5 + 2)) = some (U t.b) ∧ W.cell? ((⟨b, off, spot⟩ : Addr).add (i * 5 + 3)) = some (.bool t.neg) ∧ W.cell? ((⟨b, off, spot⟩ : Addr).add (i * 5 + 4)) = some (.int .i64 t.n)) ∧
        t.b < B64 ∧ -9223372036854775808 ≤ t.n ∧ t.n ≤ 9223372036854775807 := by
      intro i hi
      have h1 := hel i hi
      have hie : i < elems.length := by omega
      rw [List.getElem?_eq_getElem hie, Option.bind_eq_some_iff] at h1
      obtain ⟨cs', h2, h3⟩ := h1
      rw [cellsOfOp7] at h2
      obtain ⟨_, hlen5, hcell⟩ := World.cells?_some h2
      obtain ⟨ys, k, _, hxy, _, hxl, hg⟩ := DataW.trod_struct Tryd.underlying44 h3
      have hone := oneCellOp7 Tryd.underlying44
      match ys, hxl, cs', hlen5 with
      | [y0, y1, y2, y3, y4], _, [v0, v1, v2, v3, v4], _ =>
        have g0 := hg 0 _ rfl
        have g1 := hg 1 _ rfl
        have g2 := hg 2 _ rfl
        have g3 := hg 3 _ rfl
        have g4 := hg 4 _ rfl
        rw [(hone_of hone 0 _ rfl).1, (hone_of hone 0 _ rfl).2] at g0
        rw [(hone_of hone 1 _ rfl).1, (hone_of hone 1 _ rfl).2] at g1
        rw [(hone_of hone 2 _ rfl).1, (hone_of hone 2 _ rfl).2] at g2
        rw [(hone_of hone 3 _ rfl).1, (hone_of hone 3 _ rfl).2] at g3
        rw [(hone_of hone 4 _ rfl).1, (hone_of hone 4 _ rfl).2] at g4
        have k0 : DataW.trod enc Tryd.prog W 0 (fun _ => true) true k 3 [v0] = some y0 := g0
        have k1 : DataW.trod enc Tryd.prog W 0 (fun _ => true) true k 30 [v1] = some y1 := g1
        have k2 : DataW.trod enc Tryd.prog W 0 (fun _ => true) true k 26 [v2] = some y2 := g2
        have k3 : DataW.trod enc Tryd.prog W 0 (fun _ => true) true k 4 [v3] = some y3 := g3
        have k4 : DataW.trod enc Tryd.prog W 0 (fun _ => true) true k 3 [v4] = some y4 := g4
        clear g0 g1 g2 g3 g4
        obtain ⟨z0, rfl, _⟩ := open_fld_int Tryd.underlying3 k0
        obtain ⟨z1, rfl, _⟩ := open_fld_int Tryd.underlying30 k1
        obtain ⟨z2, rfl, w2⟩ := open_fld_int Tryd.underlying26 k2
        obtain ⟨z3, rfl⟩ := open_fld_bool Tryd.underlying4 k3
        obtain ⟨z4, rfl, w4⟩ := open_fld_int Tryd.underlying3 k4
        have b2 := wf_u64 w2
        obtain ⟨m2, rfl⟩ := Int.eq_ofNat_of_zero_le b2.1
        have hm2 : m2 < B64 := by rw [B64_eq]; omega
        have e0 := hcell 0 (by omega)
        have e1 := hcell 1 (by omega)
        have e2 := hcell 2 (by omega)
        have e3 := hcell 3 (by omega)
        have e4 := hcell 4 (by omega)
        rw [add_add] at e0 e1 e2 e3 e4
        exact ⟨⟨z0, z1, m2, z3, z4⟩, ⟨e0, e1, e2, e3, e4⟩, hm2, bounds_i64 w4⟩
    have inh : Inhabited Op7 := ⟨⟨0, 0, 0, false, 0⟩⟩
    obtain ⟨q, hq⟩ := choose_lt each
    refine ⟨(List.range len).map q, by simp, hl, hm, ?_, ?_⟩
    · intro t ht
      obtain ⟨i, hi, rfl⟩ := List.mem_map.1 ht
      exact (hq i (List.mem_range.1 hi)).2
    · by_cases h0 : len = 0
      · exact .inl h0
      · have hs := (hq 0 (by omega)).1.1
        have hspot : spot = none := by simpa [Addr.add] using World.cell?_spot hs
        subst hspot
        have hadd : ∀ q : Nat, (⟨b, off, none⟩ : Addr).add q = ⟨b, off + q, none⟩ := by intro q; unfold Addr.add; split <;> simp_all
        refine .inr ⟨b, off, rfl, fun i hi => ?_⟩
        have hi' : i < len := by simpa using hi
        have h5 := (hq i hi').1
        simp only [hadd] at h5
        simpa [Nat.add_assoc] using h5
end Go.Proofs.YthfkkcfjneppmaaDoor
namespace Go.Proofs.YthfkkcfjneppmaaDoor
open Go.RowKit Go.Shelf
set_option maxRecDepth 20000
set_option maxHeartbeats 0
theorem beyond_64 (w : World) : Calls Tryd.prog 13 #[WV 64 53 (-1074)] w fun e w' => e = .returned (.int .i64 1024) ∧ Below w.heap.size w w' := by
  go_enter Tryd.func13, Tryd.ntmps13
  go_wp2_with fail
  have X0 : B3 (w.alloc (.cells #[.int .i64 64, .int .i64 53, .int .i64 (-1074)] 47)) w.heap.size (.int .i64 64) (.int .i64 53) (.int .i64 (-1074)) := B3.new ..
  have hb0 : Below w.heap.size w (w.alloc (.cells #[.int .i64 64, .int .i64 53, .int .i64 (-1074)] 47)) := bwAlloc w _
  generalize w.alloc (.cells #[.int .i64 64, .int .i64 53, .int .i64 (-1074)] 47) = W at *
  obtain ⟨g, hg⟩ : ∃ g, g = w.heap.size := ⟨_, rfl⟩
  rw [← hg] at X0 ⊢
  clear hg
  have XB : Hid (B3 W.drew g (.int .i64 64) (.int .i64 53) (.int .i64 (-1074))) := X0.drew
  have HBW : Hid (Below w.heap.size w W.drew) := bwDrew hb0
  have XW : Hid (B3 W g (.int .i64 64) (.int .i64 53) (.int .i64 (-1074))) := X0
  have HB0 : Hid (Below w.heap.size w W) := hb0
  clear X0 hb0
  refine wp_region_J (fun W' => B3 W' g (.int .i64 64) (.int .i64 53) (.int .i64 (-1074))) (by kernel_rfl) ?_
  refine wpJ_take (i := 0) (v := ?v1x0) rfl (by kernel_rfl) (by kernel_rfl) (by kernel_rfl) (fun _ _ _ h => h) (by rfl) ?hy1x0 XB.out ?rest1x0
  case hy1x0 => (intro W' hJ; obtain ⟨c0, c1, c2, c3, c4, c5⟩ := hJ; go_simp; first | done | with_reducible rfl)
  refine wpJ_take (i := 2) (v := ?v2x2) rfl (by kernel_rfl) (by kernel_rfl) (by kernel_rfl) (fun _ _ _ h => h) (by rfl) ?hy2x2 XB.out ?rest2x2
  case hy2x2 => (intro W' hJ; obtain ⟨c0, c1, c2, c3, c4, c5⟩ := hJ; go_simp; first | done | with_reducible rfl)
  refine wpJ_on 1 rfl fun K hK => ?_
  go_simp
  refine (infinity_64 _).mono ?_
  rintro e w1 ⟨rfl, hb1⟩
  have Xw1 : Hid (B3 w1 g (.int .i64 64) (.int .i64 53) (.int .i64 (-1074))) := XB.out.below hb1
  have HBw1 : Hid (Below w.heap.size w w1) := bwOn HBW.out hb1
  clear hb1
  refine hK _ _ Xw1.out ?_
  clear hK
  refine wpJ_on 3 rfl fun K hK => ?_
  go_simp
  refine (stored_64 _).mono ?_
  rintro e w2 ⟨rfl, hb2⟩
  have Xw2 : Hid (B3 w2 g (.int .i64 64) (.int .i64 53) (.int .i64 (-1074))) := Xw1.out.below hb2
  have HBw2 : Hid (Below w.heap.size w w2) := bwOn HBw1.out hb2
  clear hb2
  refine hK _ _ Xw2.out ?_
  clear hK
  refine wpJ_take (i := 4) (v := ?v3x4) rfl (by kernel_rfl) (by kernel_rfl) (by kernel_rfl) (fun _ _ _ h => h) (by rfl) ?hy3x4 Xw2.out ?rest3x4
  case hy3x4 => (intro W' hJ; obtain ⟨c0, c1, c2, c3, c4, c5⟩ := hJ; go_simp; first | done | with_reducible rfl)
  refine wpJ_take (i := 5) (v := ?v4x5) rfl (by kernel_rfl) (by kernel_rfl) (by kernel_rfl) (fun _ _ _ h => h) (by rfl) ?hy4x5 Xw2.out ?rest4x5
  case hy4x5 => (intro W' hJ; obtain ⟨c0, c1, c2, c3, c4, c5⟩ := hJ; go_simp; first | done | with_reducible rfl)
  refine wpJ_take (i := 6) (v := ?v5x6) rfl (by kernel_rfl) (by kernel_rfl) (by kernel_rfl) (fun _ _ _ h => h) (by rfl) ?hy5x6 Xw2.out ?rest5x6
  case hy5x6 => (intro W' hJ; obtain ⟨c0, c1, c2, c3, c4, c5⟩ := hJ; go_simp; first | done | with_reducible rfl)
  refine wpJ_done (by kernel_rfl) ?_ _
  clear XB HBW XW HB0 Xw1 HBw1
  have XB : Hid (B3 w2.drew g (.int .i64 64) (.int .i64 53) (.int .i64 (-1074))) := Xw2.out.drew
  have HBW : Hid (Below w.heap.size w w2.drew) := bwDrew HBw2.out
  have hwr : IntKind.i64.wrap 2047 = 2047 := by decide
  go_wp2_with fail
  refine wp_region_J (fun W' => B3 W' g (.int .i64 64) (.int .i64 53) (.int .i64 (-1074))) (by kernel_rfl) ?_
  refine wpJ_take (i := 0) (v := ?v6x0) rfl (by kernel_rfl) (by kernel_rfl) (by kernel_rfl) (fun _ _ _ h => h) (by rfl) ?hy6x0 XB.out ?rest6x0
  case hy6x0 => (intro W' hJ; obtain ⟨c0, c1, c2, c3, c4, c5⟩ := hJ; go_simp; first | done | with_reducible rfl)
  refine wpJ_take (i := 1) (v := ?v7x1) rfl (by kernel_rfl) (by kernel_rfl) (by kernel_rfl) (fun _ _ _ h => h) (by rfl) ?hy7x1 XB.out ?rest7x1
  case hy7x1 => (intro W' hJ; obtain ⟨c0, c1, c2, c3, c4, c5⟩ := hJ; go_simp; first | done | with_reducible rfl)
  refine wpJ_take (i := 2) (v := ?v8x2) rfl (by kernel_rfl) (by kernel_rfl) (by kernel_rfl) (fun _ _ _ h => h) (by rfl) ?hy8x2 XB.out ?rest8x2
  case hy8x2 => (intro W' hJ; obtain ⟨c0, c1, c2, c3, c4, c5⟩ := hJ; go_simp; first | done | with_reducible rfl)
  refine wpJ_take (i := 3) (v := ?v9x3) rfl (by kernel_rfl) (by kernel_rfl) (by kernel_rfl) (fun _ _ _ h => h) (by rfl) ?hy9x3 XB.out ?rest9x3
  case hy9x3 => (intro W' hJ; obtain ⟨c0, c1, c2, c3, c4, c5⟩ := hJ; go_simp; first | done | with_reducible rfl)
  refine wpJ_take (i := 4) (v := ?v10x4) rfl (by kernel_rfl) (by kernel_rfl) (by kernel_rfl) (fun _ _ _ h => h) (by rfl) ?hy10x4 XB.out ?rest10x4
  case hy10x4 => (intro W' hJ; obtain ⟨c0, c1, c2, c3, c4, c5⟩ := hJ; go_simp; first | done | with_reducible rfl)
  refine wpJ_take (i := 5) (v := ?v11x5) rfl (by kernel_rfl) (by kernel_rfl) (by kernel_rfl) (fun _ _ _ h => h) (by rfl) ?hy11x5 XB.out ?rest11x5
  case hy11x5 => (intro W' hJ; obtain ⟨c0, c1, c2, c3, c4, c5⟩ := hJ; go_simp; first | done | with_reducible rfl)
  refine wpJ_on 6 rfl fun K hK => ?_
  go_simp
  refine (stored_64 _).mono ?_
  rintro e w3 ⟨rfl, hb3⟩
  have Xw3 : Hid (B3 w3 g (.int .i64 64) (.int .i64 53) (.int .i64 (-1074))) := XB.out.below hb3
  have HBw3 : Hid (Below w.heap.size w w3) := bwOn HBW.out hb3
  clear hb3
  refine hK _ _ Xw3.out ?_
  clear hK
  refine wpJ_take (i := 7) (v := ?v12x7) rfl (by kernel_rfl) (by kernel_rfl) (by kernel_rfl) (fun _ _ _ h => h) (by rfl) ?hy12x7 Xw3.out ?rest12x7
  case hy12x7 => (intro W' hJ; obtain ⟨c0, c1, c2, c3, c4, c5⟩ := hJ; go_simp; first | done | with_reducible rfl)
  refine wpJ_take (i := 8) (v := ?v13x8) rfl (by kernel_rfl) (by kernel_rfl) (by kernel_rfl) (fun _ _ _ h => h) (by rfl) ?hy13x8 Xw3.out ?rest13x8
  case hy13x8 => (intro W' hJ; obtain ⟨c0, c1, c2, c3, c4, c5⟩ := hJ; go_simp; first | done | with_reducible rfl)
  refine wpJ_done (by kernel_rfl) ?_ _
  go_wp2_with fail
  go_ret
  exact ⟨rfl, HBw3.out⟩
theorem unit_64 (top : Int) (h1 : -1022 ≤ top) (h2 : top ≤ 5000) (w : World) : Calls Tryd.prog 16 #[WV 64 53 (-1074), .int .i64 top] w fun e w' => e = .returned (.int .i64 (top - 52)) ∧ Below w.heap.size w w' := by
  obtain ⟨r, hr⟩ : ∃ r, r = top - 52 := ⟨_, rfl⟩
  have e1 : IntKind.i64.wrap (top - 52) = r := by rw [hr]; simp [IntKind.wrap, IntKind.signed, IntKind.bits]; omega
  have e2 : max r (-1074) = r := by omega
  rw [← hr]
  clear hr h1 h2
  go_enter Tryd.func16, Tryd.ntmps16
  go_wp2_with fail
  have X0 : B3 (w.alloc (.cells #[.int .i64 64, .int .i64 53, .int .i64 (-1074)] 47)) w.heap.size (.int .i64 64) (.int .i64 53) (.int .i64 (-1074)) := B3.new ..
  have hb0 : Below w.heap.size w (w.alloc (.cells #[.int .i64 64, .int .i64 53, .int .i64 (-1074)] 47)) := bwAlloc w _
  generalize w.alloc (.cells #[.int .i64 64, .int .i64 53, .int .i64 (-1074)] 47) = W at *
  obtain ⟨g, hg⟩ : ∃ g, g = w.heap.size := ⟨_, rfl⟩
  rw [← hg] at X0 ⊢
  clear hg
  have XB : Hid (B3 W.drew g (.int .i64 64) (.int .i64 53) (.int .i64 (-1074))) := X0.drew
  have HBW : Hid (Below w.heap.size w W.drew) := bwDrew hb0
  have XW : Hid (B3 W g (.int .i64 64) (.int .i64 53) (.int .i64 (-1074))) := X0
  have HB0 : Hid (Below w.heap.size w W) := hb0
  clear X0 hb0
  refine wp_region_J (fun W' => B3 W' g (.int .i64 64) (.int .i64 53) (.int .i64 (-1074))) (by kernel_rfl) ?_
  refine wpJ_take (i := 0) (v := ?v14x0) rfl (by kernel_rfl) (by kernel_rfl) (by kernel_rfl) (fun _ _ _ h => h) (by rfl) ?hy14x0 XB.out ?rest14x0
  case hy14x0 => (intro W' hJ; obtain ⟨c0, c1, c2, c3, c4, c5⟩ := hJ; go_simp; first | done | with_reducible rfl)
  refine wpJ_take (i := 1) (v := ?v15x1) rfl (by kernel_rfl) (by kernel_rfl) (by kernel_rfl) (fun _ _ _ h => h) (by rfl) ?hy15x1 XB.out ?rest15x1
  case hy15x1 => (intro W' hJ; obtain ⟨c0, c1, c2, c3, c4, c5⟩ := hJ; go_simp; first | done | with_reducible rfl)
  refine wpJ_take (i := 4) (v := ?v16x4) rfl (by kernel_rfl) (by kernel_rfl) (by kernel_rfl) (fun _ _ _ h => h) (by rfl) ?hy16x4 XB.out ?rest16x4
  case hy16x4 => (intro W' hJ; obtain ⟨c0, c1, c2, c3, c4, c5⟩ := hJ; go_simp; first | done | with_reducible rfl)
  refine wpJ_take (i := 5) (v := ?v17x5) rfl (by kernel_rfl) (by kernel_rfl) (by kernel_rfl) (fun _ _ _ h => h) (by rfl) ?hy17x5 XB.out ?rest17x5
  case hy17x5 => (intro W' hJ; obtain ⟨c0, c1, c2, c3, c4, c5⟩ := hJ; go_simp; first | done | with_reducible rfl)
  refine wpJ_on 2 rfl fun K hK => ?_
  go_simp
  refine (stored_64 _).mono ?_
  rintro e w2 ⟨rfl, hb2⟩
  have Xw2 : Hid (B3 w2 g (.int .i64 64) (.int .i64 53) (.int .i64 (-1074))) := XB.out.below hb2
  have HBw2 : Hid (Below w.heap.size w w2) := bwOn HBW.out hb2
  clear hb2
  refine hK _ _ Xw2.out ?_
  clear hK
  refine wpJ_take (i := 3) (v := ?v18x3) rfl (by kernel_rfl) (by kernel_rfl) (by kernel_rfl) (fun _ _ _ h => h) (by rfl) ?hy18x3 Xw2.out ?rest18x3
  case hy18x3 => (intro W' hJ; obtain ⟨c0, c1, c2, c3, c4, c5⟩ := hJ; go_simp; first | done | with_reducible rfl)
  refine wpJ_take (i := 6) (v := ?v19x6) rfl (by kernel_rfl) (by kernel_rfl) (by kernel_rfl) (fun _ _ _ h => h) (by rfl) ?hy19x6 Xw2.out ?rest19x6
  case hy19x6 => (intro W' hJ; obtain ⟨c0, c1, c2, c3, c4, c5⟩ := hJ; go_simp; first | done | with_reducible rfl)
  refine wpJ_take (i := 7) (v := ?v20x7) rfl (by kernel_rfl) (by kernel_rfl) (by kernel_rfl) (fun _ _ _ h => h) (by rfl) ?hy20x7 Xw2.out ?rest20x7
  case hy20x7 => (intro W' hJ; obtain ⟨c0, c1, c2, c3, c4, c5⟩ := hJ; go_simp; first | done | with_reducible rfl)
  refine wpJ_done (by kernel_rfl) ?_ _
  clear XB HBW XW HB0
  go_wp2_with fail
  go_ret
  exact ⟨rfl, HBw2.out⟩
theorem size_64 (man q : Nat) (u : Int) (hu : u = (q : Int) - 1074) (hq : q < 2048) (hm : man ≤ 9007199254740992) (w : World) : Calls Tryd.prog 17 #[WV 64 53 (-1074), U man, .int .i64 u] w fun e w' => e = .returned (U (q * 4503599627370496 + man)) ∧ Below w.heap.size w w' := by
  obtain ⟨r, hr⟩ : ∃ r, r = q * 4503599627370496 + man := ⟨_, rfl⟩
  obtain ⟨y, hy⟩ : ∃ y, y = q * 4503599627370496 := ⟨_, rfl⟩
  rw [← hr]
  have e1 : IntKind.i64.wrap (u - -1074) = (q : Int) := by simp [IntKind.wrap, IntKind.signed, IntKind.bits]; omega
  have e1' : IntKind.i64.wrap (u + 1074) = (q : Int) := by simp [IntKind.wrap, IntKind.signed, IntKind.bits]; omega
  have e2 : IntKind.u64.wrap (q : Int) = (q : Int) := by rw [IntKind.wrap_u64]; omega
  have e3 : IntKind.u64.wrap ((q : Int) * 4503599627370496) = (y : Int) := by rw [IntKind.wrap_u64]; omega
  have e4 : IntKind.u64.wrap ((y : Int) + (man : Int)) = (r : Int) := by rw [IntKind.wrap_u64]; omega
  clear hr hy hq hm hu
  go_enter Tryd.func17, Tryd.ntmps17
  go_wp2_with fail
  have X0 : B3 (w.alloc (.cells #[.int .i64 64, .int .i64 53, .int .i64 (-1074)] 47)) w.heap.size (.int .i64 64) (.int .i64 53) (.int .i64 (-1074)) := B3.new ..
  have hb0 : Below w.heap.size w (w.alloc (.cells #[.int .i64 64, .int .i64 53, .int .i64 (-1074)] 47)) := bwAlloc w _
  generalize w.alloc (.cells #[.int .i64 64, .int .i64 53, .int .i64 (-1074)] 47) = W at *
  obtain ⟨g, hg⟩ : ∃ g, g = w.heap.size := ⟨_, rfl⟩
  rw [← hg] at X0 ⊢
  clear hg
  have XB : Hid (B3 W.drew g (.int .i64 64) (.int .i64 53) (.int .i64 (-1074))) := X0.drew
  have HBW : Hid (Below w.heap.size w W.drew) := bwDrew hb0
  have XW : Hid (B3 W g (.int .i64 64) (.int .i64 53) (.int .i64 (-1074))) := X0
  have HB0 : Hid (Below w.heap.size w W) := hb0
  clear X0 hb0
  refine wp_region_J (fun W' => B3 W' g (.int .i64 64) (.int .i64 53) (.int .i64 (-1074))) (by kernel_rfl) ?_
  refine wpJ_take (i := 0) (v := ?v21x0) rfl (by kernel_rfl) (by kernel_rfl) (by kernel_rfl) (fun _ _ _ h => h) (by rfl) ?hy21x0 XB.out ?rest21x0
  case hy21x0 => (intro W' hJ; obtain ⟨c0, c1, c2, c3, c4, c5⟩ := hJ; go_simp; first | done | with_reducible rfl)
  refine wpJ_take (i := 1) (v := ?v22x1) rfl (by kernel_rfl) (by kernel_rfl) (by kernel_rfl) (fun _ _ _ h => h) (by rfl) ?hy22x1 XB.out ?rest22x1
  case hy22x1 => (intro W' hJ; obtain ⟨c0, c1, c2, c3, c4, c5⟩ := hJ; go_simp; first | done | with_reducible rfl)
  refine wpJ_take (i := 2) (v := ?v23x2) rfl (by kernel_rfl) (by kernel_rfl) (by kernel_rfl) (fun _ _ _ h => h) (by rfl) ?hy23x2 XB.out ?rest23x2
  case hy23x2 => (intro W' hJ; obtain ⟨c0, c1, c2, c3, c4, c5⟩ := hJ; go_simp; first | done | with_reducible rfl)
  refine wpJ_take (i := 3) (v := ?v24x3) rfl (by kernel_rfl) (by kernel_rfl) (by kernel_rfl) (fun _ _ _ h => h) (by rfl) ?hy24x3 XB.out ?rest24x3
  case hy24x3 => (intro W' hJ; obtain ⟨c0, c1, c2, c3, c4, c5⟩ := hJ; go_simp; first | done | with_reducible rfl)
  refine wpJ_take (i := 4) (v := ?v25x4) rfl (by kernel_rfl) (by kernel_rfl) (by kernel_rfl) (fun _ _ _ h => h) (by rfl) ?hy25x4 XB.out ?rest25x4
  case hy25x4 => (intro W' hJ; obtain ⟨c0, c1, c2, c3, c4, c5⟩ := hJ; go_simp; first | done | with_reducible rfl)
  refine wpJ_take (i := 5) (v := ?v26x5) rfl (by kernel_rfl) (by kernel_rfl) (by kernel_rfl) (fun _ _ _ h => h) (by rfl) ?hy26x5 XB.out ?rest26x5
  case hy26x5 => (intro W' hJ; obtain ⟨c0, c1, c2, c3, c4, c5⟩ := hJ; go_simp; first | done | with_reducible rfl)
  refine wpJ_take (i := 8) (v := ?v27x8) rfl (by kernel_rfl) (by kernel_rfl) (by kernel_rfl) (fun _ _ _ h => h) (by rfl) ?hy27x8 XB.out ?rest27x8
  case hy27x8 => (intro W' hJ; obtain ⟨c0, c1, c2, c3, c4, c5⟩ := hJ; go_simp; first | done | with_reducible rfl)
  refine wpJ_on 6 rfl fun K hK => ?_
  go_simp
  refine (stored_64 _).mono ?_
  rintro e w2 ⟨rfl, hb2⟩
  have Xw2 : Hid (B3 w2 g (.int .i64 64) (.int .i64 53) (.int .i64 (-1074))) := XB.out.below hb2
  have HBw2 : Hid (Below w.heap.size w w2) := bwOn HBW.out hb2
  clear hb2
  refine hK _ _ Xw2.out ?_
  clear hK
  refine wpJ_take (i := 7) (v := ?v28x7) rfl (by kernel_rfl) (by kernel_rfl) (by kernel_rfl) (fun _ _ _ h => h) (by rfl) ?hy28x7 Xw2.out ?rest28x7
  case hy28x7 => (intro W' hJ; obtain ⟨c0, c1, c2, c3, c4, c5⟩ := hJ; go_simp; first | done | with_reducible rfl)
  refine wpJ_take (i := 9) (v := ?v29x9) rfl (by kernel_rfl) (by kernel_rfl) (by kernel_rfl) (fun _ _ _ h => h) (by rfl) ?hy29x9 Xw2.out ?rest29x9
  case hy29x9 => (intro W' hJ; obtain ⟨c0, c1, c2, c3, c4, c5⟩ := hJ; go_simp; first | done | with_reducible rfl)
  refine wpJ_take (i := 10) (v := ?v30x10) rfl (by kernel_rfl) (by kernel_rfl) (by kernel_rfl) (fun _ _ _ h => h) (by rfl) ?hy30x10 Xw2.out ?rest30x10
  case hy30x10 => (intro W' hJ; obtain ⟨c0, c1, c2, c3, c4, c5⟩ := hJ; go_simp; first | done | with_reducible rfl)
  refine wpJ_done (by kernel_rfl) ?_ _
  clear XB HBW XW HB0
  go_wp2_with fail
  go_ret
  exact ⟨rfl, HBw2.out⟩
theorem parts_32 (s q m : Nat) (hq : q = s / 8388608 - 1) (hm : m = s - q * 8388608) (hs : s < 2147483648) (w : World) : Calls Tryd.prog 38 #[WV 32 24 (-149), U s] w fun e w' => e = .returned (.tuple #[U m, .int .i64 (-149 + (q : Int))]) ∧ Below w.heap.size w w' := by
  obtain ⟨r, hr⟩ : ∃ r : Int, r = -149 + (q : Int) := ⟨_, rfl⟩
  obtain ⟨y, hy⟩ : ∃ y, y = q * 8388608 := ⟨_, rfl⟩
  rw [← hr]
  have e0 : max ((s : Int) / 8388608 - 1) 0 = (q : Int) := by omega
  have e1 : IntKind.u64.wrap (q : Int) = (q : Int) := by rw [IntKind.wrap_u64]; omega
  have e2 : IntKind.u64.wrap ((q : Int) * 8388608) = (y : Int) := by rw [IntKind.wrap_u64]; omega
  have e3 : IntKind.u64.wrap ((s : Int) - (y : Int)) = (m : Int) := by rw [IntKind.wrap_u64]; omega
  have e4 : IntKind.i64.wrap (-149 + (q : Int)) = r := by rw [hr]; simp [IntKind.wrap, IntKind.signed, IntKind.bits]; omega
  have HS : Hid (s < 2147483648) := hs
  have hs31 : (s : Int) < 2147483648 := by omega
  clear hr hy hq hm hs
  go_enter Tryd.func38, Tryd.ntmps38
  go_wp2_with fail
  have X0 : B3 (w.alloc (.cells #[.int .i64 32, .int .i64 24, .int .i64 (-149)] 47)) w.heap.size (.int .i64 32) (.int .i64 24) (.int .i64 (-149)) := B3.new ..
  have hb0 : Below w.heap.size w (w.alloc (.cells #[.int .i64 32, .int .i64 24, .int .i64 (-149)] 47)) := bwAlloc w _
  generalize w.alloc (.cells #[.int .i64 32, .int .i64 24, .int .i64 (-149)] 47) = W at *
  obtain ⟨g, hg⟩ : ∃ g, g = w.heap.size := ⟨_, rfl⟩
  rw [← hg] at X0 ⊢
  clear hg
  have XB : Hid (B3 W.drew g (.int .i64 32) (.int .i64 24) (.int .i64 (-149))) := X0.drew
  have HBW : Hid (Below w.heap.size w W.drew) := bwDrew hb0
  have XW : Hid (B3 W g (.int .i64 32) (.int .i64 24) (.int .i64 (-149))) := X0
  have HB0 : Hid (Below w.heap.size w W) := hb0
  clear X0 hb0
  refine (stored_32 _).mono ?_
  rintro e w1 ⟨rfl, hb1⟩
  have Xw1 : Hid (B3 w1 g (.int .i64 32) (.int .i64 24) (.int .i64 (-149))) := XW.out.below hb1
  have HBw1 : Hid (Below w.heap.size w w1) := bwOn HB0.out hb1
  clear hb1
  have c6 := Xw1.out
  obtain ⟨c0, c1, c2, c3, c4, c5⟩ := c6
  go_wp2_with fail
  clear c0 c1 c2 c3 c4 c5 XB HBW XW HB0
  have XB : Hid (B3 w1.drew g (.int .i64 32) (.int .i64 24) (.int .i64 (-149))) := Xw1.out.drew
  have HBW : Hid (Below w.heap.size w w1.drew) := bwDrew HBw1.out
  refine wp_region_J (fun W' => B3 W' g (.int .i64 32) (.int .i64 24) (.int .i64 (-149))) (by kernel_rfl) ?_
  refine wpJ_take (i := 0) (v := ?v31x0) rfl (by kernel_rfl) (by kernel_rfl) (by kernel_rfl) (fun _ _ _ h => h) (by rfl) ?hy31x0 XB.out ?rest31x0
  case hy31x0 => (intro W' hJ; obtain ⟨c0, c1, c2, c3, c4, c5⟩ := hJ; go_simp; first | done | with_reducible rfl)
  refine wpJ_take (i := 1) (v := ?v32x1) rfl (by kernel_rfl) (by kernel_rfl) (by kernel_rfl) (fun _ _ _ h => h) (by rfl) ?hy32x1 XB.out ?rest32x1
  case hy32x1 => (intro W' hJ; obtain ⟨c0, c1, c2, c3, c4, c5⟩ := hJ; go_simp; first | done | with_reducible rfl)
  refine wpJ_take (i := 2) (v := ?v33x2) rfl (by kernel_rfl) (by kernel_rfl) (by kernel_rfl) (fun _ _ _ h => h) (by rfl) ?hy33x2 XB.out ?rest33x2
  case hy33x2 => (intro W' hJ; obtain ⟨c0, c1, c2, c3, c4, c5⟩ := hJ; go_simp; first | done | with_reducible rfl)
  refine wpJ_take (i := 3) (v := ?v34x3) rfl (by kernel_rfl) (by kernel_rfl) (by kernel_rfl) (fun _ _ _ h => h) (by rfl) ?hy34x3 XB.out ?rest34x3
  case hy34x3 => (intro W' hJ; obtain ⟨c0, c1, c2, c3, c4, c5⟩ := hJ; go_simp; first | done | with_reducible rfl)
  refine wpJ_take (i := 7) (v := ?v35x7) rfl (by kernel_rfl) (by kernel_rfl) (by kernel_rfl) (fun _ _ _ h => h) (by rfl) ?hy35x7 XB.out ?rest35x7
  case hy35x7 => (intro W' hJ; obtain ⟨c0, c1, c2, c3, c4, c5⟩ := hJ; go_simp; first | done | with_reducible rfl)
  refine wpJ_take (i := 8) (v := ?v36x8) rfl (by kernel_rfl) (by kernel_rfl) (by kernel_rfl) (fun _ _ _ h => h) (by rfl) ?hy36x8 XB.out ?rest36x8
  case hy36x8 => (intro W' hJ; obtain ⟨c0, c1, c2, c3, c4, c5⟩ := hJ; go_simp; first | done | with_reducible rfl)
  refine wpJ_take (i := 9) (v := ?v37x9) rfl (by kernel_rfl) (by kernel_rfl) (by kernel_rfl) (fun _ _ _ h => h) (by rfl) ?hy37x9 XB.out ?rest37x9
  case hy37x9 => (intro W' hJ; obtain ⟨c0, c1, c2, c3, c4, c5⟩ := hJ; go_simp; first | done | with_reducible rfl)
  refine wpJ_take (i := 10) (v := ?v38x10) rfl (by kernel_rfl) (by kernel_rfl) (by kernel_rfl) (fun _ _ _ h => h) (by rfl) ?hy38x10 XB.out ?rest38x10
  case hy38x10 => (intro W' hJ; obtain ⟨c0, c1, c2, c3, c4, c5⟩ := hJ; go_simp; first | done | with_reducible rfl)
  refine wpJ_on 4 rfl fun K hK => ?_
  go_simp
  refine (stored_32 _).mono ?_
  rintro e w2 ⟨rfl, hb2⟩
  have Xw2 : Hid (B3 w2 g (.int .i64 32) (.int .i64 24) (.int .i64 (-149))) := XB.out.below hb2
  have HBw2 : Hid (Below w.heap.size w w2) := bwOn HBW.out hb2
  clear hb2
  refine hK _ _ Xw2.out ?_
  clear hK
  refine wpJ_take (i := 5) (v := ?v39x5) rfl (by kernel_rfl) (by kernel_rfl) (by kernel_rfl) (fun _ _ _ h => h) (by rfl) ?hy39x5 Xw2.out ?rest39x5
  case hy39x5 => (intro W' hJ; obtain ⟨c0, c1, c2, c3, c4, c5⟩ := hJ; go_simp; first | done | with_reducible rfl)
  refine wpJ_take (i := 6) (v := ?v40x6) rfl (by kernel_rfl) (by kernel_rfl) (by kernel_rfl) (fun _ _ _ h => h) (by rfl) ?hy40x6 Xw2.out ?rest40x6
  case hy40x6 => (intro W' hJ; obtain ⟨c0, c1, c2, c3, c4, c5⟩ := hJ; go_simp; first | done | with_reducible rfl)
  refine wpJ_take (i := 11) (v := ?v41x11) rfl (by kernel_rfl) (by kernel_rfl) (by kernel_rfl) (fun _ _ _ h => h) (by rfl) ?hy41x11 Xw2.out ?rest41x11
  case hy41x11 => (intro W' hJ; obtain ⟨c0, c1, c2, c3, c4, c5⟩ := hJ; go_simp; first | done | with_reducible rfl)
  refine wpJ_take (i := 12) (v := ?v42x12) rfl (by kernel_rfl) (by kernel_rfl) (by kernel_rfl) (fun _ _ _ h => h) (by rfl) ?hy42x12 Xw2.out ?rest42x12
  case hy42x12 => (intro W' hJ; obtain ⟨c0, c1, c2, c3, c4, c5⟩ := hJ; go_simp; first | done | with_reducible rfl)
  refine wpJ_done (by kernel_rfl) ?_ _
  go_wp2_with fail
  go_ret2
  exact ⟨rfl, HBw2.out⟩
theorem parts_64 (s q m : Nat) (hq : q = s / 4503599627370496 - 1) (hm : m = s - q * 4503599627370496) (hs : s < 9223372036854775808) (w : World) : Calls Tryd.prog 38 #[WV 64 53 (-1074), U s] w fun e w' => e = .returned (.tuple #[U m, .int .i64 (-1074 + (q : Int))]) ∧ Below w.heap.size w w' := by
  obtain ⟨r, hr⟩ : ∃ r : Int, r = -1074 + (q : Int) := ⟨_, rfl⟩
  obtain ⟨y, hy⟩ : ∃ y, y = q * 4503599627370496 := ⟨_, rfl⟩
  rw [← hr]
  have e0 : max ((s : Int) / 4503599627370496 - 1) 0 = (q : Int) := by omega
  have e1 : IntKind.u64.wrap (q : Int) = (q : Int) := by rw [IntKind.wrap_u64]; omega
  have e2 : IntKind.u64.wrap ((q : Int) * 4503599627370496) = (y : Int) := by rw [IntKind.wrap_u64]; omega
  have e3 : IntKind.u64.wrap ((s : Int) - (y : Int)) = (m : Int) := by rw [IntKind.wrap_u64]; omega
  have e4 : IntKind.i64.wrap (-1074 + (q : Int)) = r := by rw [hr]; simp [IntKind.wrap, IntKind.signed, IntKind.bits]; omega
  have HS : Hid (s < 9223372036854775808) := hs
  have hs31 : (s : Int) < 9223372036854775808 := by omega
  clear hr hy hq hm hs
  go_enter Tryd.func38, Tryd.ntmps38
  go_wp2_with fail
  have X0 : B3 (w.alloc (.cells #[.int .i64 64, .int .i64 53, .int .i64 (-1074)] 47)) w.heap.size (.int .i64 64) (.int .i64 53) (.int .i64 (-1074)) := B3.new ..
  have hb0 : Below w.heap.size w (w.alloc (.cells #[.int .i64 64, .int .i64 53, .int .i64 (-1074)] 47)) := bwAlloc w _
  generalize w.alloc (.cells #[.int .i64 64, .int .i64 53, .int .i64 (-1074)] 47) = W at *
  obtain ⟨g, hg⟩ : ∃ g, g = w.heap.size := ⟨_, rfl⟩
  rw [← hg] at X0 ⊢
  clear hg
  have XB : Hid (B3 W.drew g (.int .i64 64) (.int .i64 53) (.int .i64 (-1074))) := X0.drew
  have HBW : Hid (Below w.heap.size w W.drew) := bwDrew hb0
  have XW : Hid (B3 W g (.int .i64 64) (.int .i64 53) (.int .i64 (-1074))) := X0
  have HB0 : Hid (Below w.heap.size w W) := hb0
  clear X0 hb0
  refine (stored_64 _).mono ?_
  rintro e w1 ⟨rfl, hb1⟩
  have Xw1 : Hid (B3 w1 g (.int .i64 64) (.int .i64 53) (.int .i64 (-1074))) := XW.out.below hb1
  have HBw1 : Hid (Below w.heap.size w w1) := bwOn HB0.out hb1
  clear hb1
  have c6 := Xw1.out
  obtain ⟨c0, c1, c2, c3, c4, c5⟩ := c6
  go_wp2_with fail
  clear c0 c1 c2 c3 c4 c5 XB HBW XW HB0
  have XB : Hid (B3 w1.drew g (.int .i64 64) (.int .i64 53) (.int .i64 (-1074))) := Xw1.out.drew
  have HBW : Hid (Below w.heap.size w w1.drew) := bwDrew HBw1.out
  refine wp_region_J (fun W' => B3 W' g (.int .i64 64) (.int .i64 53) (.int .i64 (-1074))) (by kernel_rfl) ?_
  refine wpJ_take (i := 0) (v := ?v31x0) rfl (by kernel_rfl) (by kernel_rfl) (by kernel_rfl) (fun _ _ _ h => h) (by rfl) ?hy31x0 XB.out ?rest31x0
  case hy31x0 => (intro W' hJ; obtain ⟨c0, c1, c2, c3, c4, c5⟩ := hJ; go_simp; first | done | with_reducible rfl)
  refine wpJ_take (i := 1) (v := ?v32x1) rfl (by kernel_rfl) (by kernel_rfl) (by kernel_rfl) (fun _ _ _ h => h) (by rfl) ?hy32x1 XB.out ?rest32x1
  case hy32x1 => (intro W' hJ; obtain ⟨c0, c1, c2, c3, c4, c5⟩ := hJ; go_simp; first | done | with_reducible rfl)
  refine wpJ_take (i := 2) (v := ?v33x2) rfl (by kernel_rfl) (by kernel_rfl) (by kernel_rfl) (fun _ _ _ h => h) (by rfl) ?hy33x2 XB.out ?rest33x2
  case hy33x2 => (intro W' hJ; obtain ⟨c0, c1, c2, c3, c4, c5⟩ := hJ; go_simp; first | done | with_reducible rfl)
  refine wpJ_take (i := 3) (v := ?v34x3) rfl (by kernel_rfl) (by kernel_rfl) (by kernel_rfl) (fun _ _ _ h => h) (by rfl) ?hy34x3 XB.out ?rest34x3
  case hy34x3 => (intro W' hJ; obtain ⟨c0, c1, c2, c3, c4, c5⟩ := hJ; go_simp; first | done | with_reducible rfl)
  refine wpJ_take (i := 7) (v := ?v35x7) rfl (by kernel_rfl) (by kernel_rfl) (by kernel_rfl) (fun _ _ _ h => h) (by rfl) ?hy35x7 XB.out ?rest35x7
  case hy35x7 => (intro W' hJ; obtain ⟨c0, c1, c2, c3, c4, c5⟩ := hJ; go_simp; first | done | with_reducible rfl)
  refine wpJ_take (i := 8) (v := ?v36x8) rfl (by kernel_rfl) (by kernel_rfl) (by kernel_rfl) (fun _ _ _ h => h) (by rfl) ?hy36x8 XB.out ?rest36x8
  case hy36x8 => (intro W' hJ; obtain ⟨c0, c1, c2, c3, c4, c5⟩ := hJ; go_simp; first | done | with_reducible rfl)
  refine wpJ_take (i := 9) (v := ?v37x9) rfl (by kernel_rfl) (by kernel_rfl) (by kernel_rfl) (fun _ _ _ h => h) (by rfl) ?hy37x9 XB.out ?rest37x9
  case hy37x9 => (intro W' hJ; obtain ⟨c0, c1, c2, c3, c4, c5⟩ := hJ; go_simp; first | done | with_reducible rfl)
  refine wpJ_take (i := 10) (v := ?v38x10) rfl (by kernel_rfl) (by kernel_rfl) (by kernel_rfl) (fun _ _ _ h => h) (by rfl) ?hy38x10 XB.out ?rest38x10
  case hy38x10 => (intro W' hJ; obtain ⟨c0, c1, c2, c3, c4, c5⟩ := hJ; go_simp; first | done | with_reducible rfl)
  refine wpJ_on 4 rfl fun K hK => ?_
  go_simp
  refine (stored_64 _).mono ?_
  rintro e w2 ⟨rfl, hb2⟩
  have Xw2 : Hid (B3 w2 g (.int .i64 64) (.int .i64 53) (.int .i64 (-1074))) := XB.out.below hb2
  have HBw2 : Hid (Below w.heap.size w w2) := bwOn HBW.out hb2
  clear hb2
  refine hK _ _ Xw2.out ?_
  clear hK
  refine wpJ_take (i := 5) (v := ?v39x5) rfl (by kernel_rfl) (by kernel_rfl) (by kernel_rfl) (fun _ _ _ h => h) (by rfl) ?hy39x5 Xw2.out ?rest39x5
  case hy39x5 => (intro W' hJ; obtain ⟨c0, c1, c2, c3, c4, c5⟩ := hJ; go_simp; first | done | with_reducible rfl)
  refine wpJ_take (i := 6) (v := ?v40x6) rfl (by kernel_rfl) (by kernel_rfl) (by kernel_rfl) (fun _ _ _ h => h) (by rfl) ?hy40x6 Xw2.out ?rest40x6
  case hy40x6 => (intro W' hJ; obtain ⟨c0, c1, c2, c3, c4, c5⟩ := hJ; go_simp; first | done | with_reducible rfl)
  refine wpJ_take (i := 11) (v := ?v41x11) rfl (by kernel_rfl) (by kernel_rfl) (by kernel_rfl) (fun _ _ _ h => h) (by rfl) ?hy41x11 Xw2.out ?rest41x11
  case hy41x11 => (intro W' hJ; obtain ⟨c0, c1, c2, c3, c4, c5⟩ := hJ; go_simp; first | done | with_reducible rfl)
  refine wpJ_take (i := 12) (v := ?v42x12) rfl (by kernel_rfl) (by kernel_rfl) (by kernel_rfl) (fun _ _ _ h => h) (by rfl) ?hy42x12 Xw2.out ?rest42x12
  case hy42x12 => (intro W' hJ; obtain ⟨c0, c1, c2, c3, c4, c5⟩ := hJ; go_simp; first | done | with_reducible rfl)
  refine wpJ_done (by kernel_rfl) ?_ _
  go_wp2_with fail
  go_ret2
  exact ⟨rfl, HBw2.out⟩
end Go.Proofs.YthfkkcfjneppmaaDoor
namespace Go.Proofs.YthfkkcfjneppmaaDoor
open Go.RowKit
set_option maxRecDepth 20000
set_option maxHeartbeats 0
variable {P : Program} {md : Region.Mode} {ops : Array Oper} {Q : Exit → Act → World → Prop} {J : World → Prop}
variable {P : Program} {md : Region.Mode} {ops : Array Oper} {Q : Exit → Act → World → Prop} {J : World → Prop}
end Go.Proofs.YthfkkcfjneppmaaDoor
namespace Go.Proofs.YthfkkcfjneppmaaDoor
open Go.RowKit Go.Shelf
set_option maxRecDepth 20000
set_option maxHeartbeats 0
theorem moved_ok (e n : Int) (w : World) (he : -1048576 ≤ e ∧ e ≤ 2097152) (hs : -1048576 ≤ e + n ∧ e + n ≤ 1048576) :
    Calls Tryd.prog 42 #[.int .i64 e, .int .i64 n] w fun en w' => en = .returned (.tuple #[.int .i64 (e + n), .int .i64 0]) ∧ w' = w := by
  have f1 : wrap64 (-1048576 - e) = -1048576 - e := by simp only [wrap64]; omega
  have f2 : wrap64 (1048576 - e) = 1048576 - e := by simp only [wrap64]; omega
  have f3 : wrap64 (e + n) = e + n := by simp only [wrap64]; omega
  have f4 : ¬ n < -1048576 - e := by omega
  have f5 : ¬ 1048576 - e < n := by omega
  clear he hs
  go_enter Tryd.func42, Tryd.ntmps42
  go_wp2_with fail
  go_ret2
  exact ⟨rfl, rfl⟩
structure DB (z e : Int) (K E : Nat) : Prop where
  fm : DFm z e
  sz : z.natAbs < 2 ^ K
  lo : -(E : Int) ≤ e
  hi : e ≤ E
theorem DB.mono {z e : Int} {K E K' E' : Nat} (h : DB z e K E) (hK : K ≤ K') (hE : E ≤ E') : DB z e K' E' :=
  ⟨h.fm, Nat.lt_of_lt_of_le h.sz (Nat.pow_le_pow_right (by omega) hK), by have := h.lo; omega, by have := h.hi; omega⟩
theorem DFm.neg {z e : Int} (h : DFm z e) : DFm (-z) e := by
  rcases h with ⟨h1, h2⟩ | ⟨h1, h2⟩
  · exact .inl ⟨by omega, h2⟩
  · exact .inr ⟨by omega, h2⟩
theorem DB.neg {z e : Int} {K E : Nat} (h : DB z e K E) : DB (-z) e K E := ⟨h.fm.neg, by rw [Int.natAbs_neg]; exact h.sz, h.lo, h.hi⟩
theorem dv_up {x e : Int} (k : Nat) (he : -4194304 ≤ e) : dv x (e + k) = dv (x * ((2 ^ k : Nat) : Int)) e := by
  rw [dv_shift (e := e + k) (f := e) (by omega) he, show (e + (k : Int) - e).toNat = k from by omega]
def MakeP (B : Nat) (w' : World) (en : Ending) (z e : Int) : Prop :=
  (∃ v zo eo, en = .returned (.tuple #[v, .int .i64 0]) ∧ AnsD B w' v zo eo ∧ DFm zo eo ∧ dv zo eo = dv z e) ∨
  (en = .returned (.tuple #[DV false none 0 0 0, .int .i64 5]) ∧ ∀ zo eo, DFm zo eo → dv zo eo ≠ dv z e)
theorem MakeP.form {B : Nat} {w' : World} {en : Ending} {z e zo eo : Int} (h : MakeP B w' en z e) (hf : DFm zo eo) (hv : dv zo eo = dv z e) : ∃ v, en = .returned (.tuple #[v, .int .i64 0]) ∧ AnsD B w' v zo eo := by
  rcases h with ⟨v, z1, e1, h1, h2, h3, h4⟩ | ⟨_, h2⟩
  · obtain ⟨rfl, rfl⟩ := dv_inj h3 hf (h4.trans hv.symm)
    exact ⟨v, h1, h2⟩
  · exact absurd hv (h2 _ _ hf)
theorem odd_exp {z z' e e' : Int} (hz : z % 2 = 1) (hz' : z' % 2 = 1) (he : -4194304 ≤ e) (he' : -4194304 ≤ e') (h : dv z e = dv z' e') : e = e' := by
  unfold dv at h
  have h1 := odd_ne hz h
  have h2 := odd_ne hz' h.symm
  omega
theorem make_no {z e : Int} {k : Nat} (hz : z ≠ 0) (hk : TzO z.natAbs k) (he : -4194304 ≤ e) (hn : ¬ (-1048576 ≤ k + e ∧ k + e ≤ 1048576)) : ∀ zo eo, DFm zo eo → dv zo eo ≠ dv z e := by
  intro zo eo hf hv
  obtain ⟨h1, h2, _⟩ := tz_split hz hk
  generalize fl (decide (z < 0)) z.natAbs (2 ^ k) = o at *
  rw [← h2, ← dv_up k he] at hv
  rcases hf with ⟨rfl, rfl⟩ | ⟨h3, h4, h5⟩
  · rw [dv_zero] at hv
    have := dv_eq_zero hv.symm
    omega
  · have := odd_exp h3 h1 (by omega) (by omega) hv
    omega
theorem form_ex {z e : Int} {L : Nat} (hz : z ≠ 0) (h1 : -1048576 ≤ e) (hL : z.natAbs ≤ 2 ^ L) (h2 : e + L ≤ 1048576) : ∃ zo eo, DFm zo eo ∧ dv zo eo = dv z e ∧ zo % 2 = 1 ∧ zo.natAbs ≤ z.natAbs ∧ e ≤ eo ∧ eo ≤ e + L := by
  obtain ⟨k, hk⟩ := TzO.ex z.natAbs
  obtain ⟨h3, h4, h5⟩ := tz_split hz hk
  have h6 : 2 ^ k ≤ 2 ^ L := by
    refine Nat.le_trans ?_ hL
    rcases hk with ⟨h0, _⟩ | ⟨_, h7, h8⟩
    · omega
    · rcases Nat.lt_or_ge z.natAbs (2 ^ k) with h | h
      · rw [Nat.div_eq_of_lt h] at h8; omega
      · exact h
  have h7 := (Nat.pow_le_pow_iff_right (by omega : 1 < 2)).1 h6
  generalize fl (decide (z < 0)) z.natAbs (2 ^ k) = o at *
  refine ⟨o, e + k, .inr ⟨h3, by omega, by omega⟩, ?_, h3, h5, by omega, by omega⟩
  rw [dv_up k (by omega), h4]
def MP (B : Nat) (w' : World) (s : Bool) (p : Option Addr) (m : Nat) (eo er : Int) (z e : Int) : Prop :=
  (er = 0 ∧ ∃ zo zs, s = decide (zo < 0) ∧ Own B w' p m zs ∧ Nf B64 zs zo.natAbs ∧ m ≤ 8192 ∧ DFm zo eo ∧ dv zo eo = dv z e) ∨
  (er = 5 ∧ s = false ∧ p = none ∧ m = 0 ∧ eo = 0 ∧ ∀ zo eo, DFm zo eo → dv zo eo ≠ dv z e)
theorem MakeP.open {B : Nat} {w' : World} {en : Ending} {z e : Int} (h : MakeP B w' en z e) : ∃ s p m eo er, en = .returned (.tuple #[DV s p m m eo, .int .i64 er]) ∧ MP B w' s p m eo er z e := by
  rcases h with ⟨v, z1, e1, h1, ⟨p, m, zs, rfl, h2, h3, h4⟩, h5, h6⟩ | ⟨h1, h2⟩
  · exact ⟨_, p, m, e1, 0, h1, .inl ⟨rfl, z1, zs, rfl, h2, h3, h4, h5, h6⟩⟩
  · exact ⟨_, _, _, _, 5, h1, .inr ⟨rfl, rfl, rfl, rfl, rfl, h2⟩⟩
theorem MP.close {B : Nat} {w' : World} {s : Bool} {p : Option Addr} {m : Nat} {eo er z e : Int} (h : MP B w' s p m eo er z e) : MakeP B w' (.returned (.tuple #[DV s p m m eo, .int .i64 er])) z e := by
  rcases h with ⟨rfl, zo, zs, rfl, h2, h3, h4, h5, h6⟩ | ⟨rfl, rfl, rfl, rfl, rfl, h2⟩
  · exact .inl ⟨_, zo, eo, rfl, ⟨p, m, zs, rfl, h2, h3, h4⟩, h5, h6⟩
  · exact .inr ⟨rfl, h2⟩
theorem MP.set {B b : Nat} {w' : World} {s : Bool} {p : Option Addr} {m : Nat} {eo er z e : Int} (h : MP B w' s p m eo er z e) {r : Nat} (hr : r < B) (hb : b ≤ B) (v0 v1 v2 : Value) : MP b (((w'.setCell ⟨r, 0, none⟩ v0).setCell ⟨r, 1, none⟩ v1).setCell ⟨r, 2, none⟩ v2) s p m eo er z e := by
  rcases h with ⟨h0, zo, zs, h1, h2, h3, h4, h5, h6⟩ | h
  · exact .inl ⟨h0, zo, zs, h1, own_set3 h2 hr hb v0 v1 v2, h3, h4, h5, h6⟩
  · exact .inr h
theorem MP.below {B : Nat} {w w' : World} {s : Bool} {p : Option Addr} {m : Nat} {eo er z e : Int} (h : MP B w s p m eo er z e) (hb : Below w.heap.size w w') : MP B w' s p m eo er z e := by
  rcases h with ⟨h0, zo, zs, h1, h2, h3, h4, h5, h6⟩ | h
  · exact .inl ⟨h0, zo, zs, h1, h2.below hb, h3, h4, h5, h6⟩
  · exact .inr h
theorem MakeP.mono {B b : Nat} {w' : World} {en : Ending} {z e : Int} (h : MakeP B w' en z e) (hb : b ≤ B) : MakeP b w' en z e := by
  rcases h with ⟨v, z1, e1, h1, ⟨p, m, zs, h8, h2, h3, h4⟩, h5, h6⟩ | h
  · exact .inl ⟨v, z1, e1, h1, ⟨p, m, zs, h8, h2.mono hb, h3, h4⟩, h5, h6⟩
  · exact .inr h
theorem moved_no (e n : Int) (w : World) (he : -1048576 ≤ e ∧ e ≤ 2097152) (hs : ¬ (-1048576 ≤ e + n ∧ e + n ≤ 1048576)) :
    Calls Tryd.prog 42 #[.int .i64 e, .int .i64 n] w fun en w' => en = .returned (.tuple #[.int .i64 0, .int .i64 5]) ∧ w' = w := by
  have f1 : wrap64 (-1048576 - e) = -1048576 - e := by simp only [wrap64]; omega
  have f2 : wrap64 (1048576 - e) = 1048576 - e := by simp only [wrap64]; omega
  by_cases f4 : n < -1048576 - e
  · clear he hs
    go_enter Tryd.func42, Tryd.ntmps42
    go_wp2_with fail
    go_ret2
    exact ⟨rfl, rfl⟩
  have f5 : 1048576 - e < n := by omega
  clear he hs
  go_enter Tryd.func42, Tryd.ntmps42
  go_wp2_with fail
  go_ret2
  exact ⟨rfl, rfl⟩
theorem makep_n {p : Option Addr} {m c : Nat} {w : World} {z e : Int} {s : Bool} (h : ZN w s p m c z) (he : -3145728 ≤ e ∧ e ≤ 3145728) (hT : Tab w) {k : Nat} (hz : z ≠ 0) (hk : TzO z.natAbs k) (hr : (-1048576 ≤ k + e ∧ k + e ≤ 1048576)) :
    Calls Tryd.prog 19 #[ZV s p m c, .int .i64 e] w fun en w' => MakeP w.heap.size w' en z e ∧ Below w.heap.size w w' := by
  have H : Hid (ZN w s p m c z) := h
  have HE : Hid (-3145728 ≤ e ∧ e ≤ 3145728) := he
  have TB : Hid (Tab w) := hT
  have HZ : Hid (z ≠ 0) := hz
  have HR : Hid ((-1048576 ≤ k + e ∧ k + e ≤ 1048576)) := hr
  have HK : Hid (TzO z.natAbs k) := hk
  clear h he hT hz hr
  go_enter Tryd.func19, Tryd.ntmps19
  go_wp2_with fail
  obtain ⟨W0, hW0⟩ : ∃ W0, W0 = ((w.alloc (.cells #[.bool s, .slice p m c] 33)).alloc (.cells #[.bool false, .slice none 0 0, .int .i64 0] 35)) := ⟨_, rfl⟩
  have Xm : Hid (Box W0 (w.heap.size) (.bool s) (.slice p m c)) := by rw [hW0]; exact ⟨by go_simp, by go_simp, by go_simp, by go_simp⟩
  have Xr : Hid (B3q W0 (w.heap.size + 1) (.bool false) (.slice none 0 0) (.int .i64 0)) := by rw [hW0]; exact ⟨by go_simp, by go_simp, by go_simp, by go_simp, by go_simp, by go_simp⟩
  have hb0 : Below w.heap.size w W0 := by rw [hW0]; exact below2 w _ _
  rw [← hW0]
  clear hW0
  have hbw : Below w.heap.size w w := Below.refl _ _
  obtain ⟨gr, hgr⟩ : ∃ g, g = w.heap.size + 1 := ⟨_, rfl⟩
  have HGr : Hid (w.heap.size ≤ gr) := by rw [hgr]; show _ ≤ _; omega
  rw [← hgr] at Xr
  try rw [← hgr]
  obtain ⟨gm, hgm⟩ : ∃ g, g = w.heap.size := ⟨_, rfl⟩
  have HGm : Hid (w.heap.size ≤ gm) := by rw [hgm]; show _ ≤ _; omega
  rw [← hgm] at Xm
  try rw [← hgm]
  have HGD : Hid (gm ≠ gr ∧ gr ≠ gm) := by rw [hgm, hgr]; exact ⟨by omega, by omega⟩
  clear hgm hgr
  replace hbw := Below.on hbw hb0
  clear hb0
  refine (zform (H.out.below hbw)).mono ?_
  rintro e v1 ⟨rfl, hb1⟩
  replace Xm : Hid _ := Xm.out.below hb1
  replace Xr : Hid _ := Xr.out.below hb1
  replace hbw := Below.on hbw hb1
  clear hb1
  obtain ⟨cm0, cm1, fm0, fm1⟩ := Xm.out
  have hnem := Xm.out.lt
  go_wp2_with fail
  clear cm0 cm1 fm0 fm1 hnem
  refine (zsign (H.out.below hbw)).mono ?_
  rintro e v2 ⟨rfl, hb2⟩
  obtain ⟨sg, hsg⟩ : ∃ sg, sg = sgnI (z) := ⟨_, rfl⟩
  rw [← hsg]
  have hs0 : (sg == 0) = false := by rw [hsg]; have := HZ.out; unfold sgnI; split <;> (try split) <;> simp <;> omega
  clear hsg
  replace Xm : Hid _ := Xm.out.below hb2
  replace Xr : Hid _ := Xr.out.below hb2
  replace hbw := Below.on hbw hb2
  clear hb2
  obtain ⟨cm0, cm1, fm0, fm1⟩ := Xm.out
  have hnem := Xm.out.lt
  go_wp2_with fail
  clear cm0 cm1 fm0 fm1 hnem
  have hkb : k ≤ 524288 := by
    have h1 := (lim_bits z.natAbs).1 H.out.lim
    rcases hk with ⟨h0, _⟩ | ⟨_, h2, h3⟩
    · exact absurd (Int.natAbs_eq_zero.1 h0) HZ.out
    · have h4 : 2 ^ k ≤ z.natAbs := by
        rcases Nat.lt_or_ge z.natAbs (2 ^ k) with h | h
        · rw [Nat.div_eq_of_lt h] at h3; omega
        · exact h
      have h5 := bitsN_lt z.natAbs
      have h6 := (Nat.pow_lt_pow_iff_right (by omega : 1 < 2)).1 (Nat.lt_of_le_of_lt h4 h5)
      omega
  have HKB : Hid (k ≤ 524288) := hkb
  clear hk hkb
  obtain ⟨xs, hX⟩ := (H.out.below hbw).ex
  refine (trail_any hX.at_ (by have := hX.le; omega) (k := k) (by rw [hX.nf.val]; exact HK.out) (TB.out.below hbw)).mono ?_
  rintro e2 v3 ⟨rfl, hw⟩
  obtain rfl := hw.symm
  clear hw hX
  go_wp2_with fail
  refine (moved_ok k e _ (by have := HKB.out; omega) HR.out).mono ?_
  rintro e2 v4 ⟨rfl, hw⟩
  obtain rfl := hw.symm
  clear hw
  obtain ⟨cm0, cm1, fm0, fm1⟩ := Xm.out
  have hnem := Xm.out.lt
  go_wp2_with fail
  clear cm0 cm1 fm0 fm1 hnem
  obtain ⟨o, ho9⟩ : ∃ o, o = fl (decide (z < 0)) z.natAbs (2 ^ k) := ⟨_, rfl⟩
  have HO9 : Hid (o % 2 = 1 ∧ o * ((2 ^ k : Nat) : Int) = z ∧ o.natAbs ≤ z.natAbs) := by rw [ho9]; exact tz_split HZ.out HK.out
  have HRL : Hid (gr < v2.heap.size ∧ w.heap.size ≤ v2.heap.size) := ⟨Xr.out.lt, hbw.size⟩
  obtain ⟨xs, hX⟩ := (H.out.below hbw).ex
  refine (fshr_any s hX H.out.pos k (by have := HKB.out; omega) (TB.out.below hbw)).mono ?_
  rintro e2 v5 ⟨v, rfl, hv, hb5⟩
  rw [H.out.sg, ← ho9] at hv
  obtain ⟨p5, m5, z5, rfl, ho5, hn5, hm5⟩ := hv
  clear hX ho9
  replace Xm : Hid _ := Xm.out.below hb5
  replace Xr : Hid _ := Xr.out.below hb5
  replace hbw := Below.on hbw hb5
  clear hb5
  have O5 : Hid (Own v2.heap.size v5 p5 m5 z5) := ho5
  have N5 : Hid (Nf B64 z5 o.natAbs ∧ m5 ≤ 8192) := ⟨hn5, hm5⟩
  clear ho5 hn5 hm5
  obtain ⟨so, hso⟩ : ∃ b, b = decide (o < 0) := ⟨_, rfl⟩
  rw [← hso]
  have HSO : Hid (so = decide (o < 0)) := hso
  clear hso
  obtain ⟨cr0, cr1, cr2, fr0, fr1, fr2⟩ := Xr.out
  have hner : gr < v5.heap.size := World.block_lt_of_cell? v5 _ cr0
  go_wp2_with fail
  refine bodyPost_ret (v := .tuple #[DV so p5 m5 m5 (k + e), .int .i64 0]) (by rw [results_cell_tmp rfl]; go_simp) rfl ⟨.inl ⟨_, o, k + e, rfl, ⟨p5, m5, z5, by rw [HSO.out], ?_, N5.out.1, N5.out.2⟩, .inr ⟨HO9.out.1, HR.out⟩, ?_⟩, ?_⟩
  · exact (own_set3 O5.out HRL.out.1 HRL.out.2 _ _ _).below (below1 _ _)
  · rw [dv_shift (e := (k : Int) + e) (f := e) (by omega) (by have := HE.out; omega), show ((k : Int) + e - e).toNat = k from by omega, HO9.out.2.1]
  · exact Below.on (bSet (bSet (bSet hbw _ _ _ HGr.out) _ _ _ HGr.out) _ _ _ HGr.out) (below1 _ _)
theorem makep_e {p : Option Addr} {m c : Nat} {w : World} {z e : Int} {s : Bool} (h : ZN w s p m c z) (he : -3145728 ≤ e ∧ e ≤ 3145728) (hT : Tab w) {k : Nat} (hz : z ≠ 0) (hk : TzO z.natAbs k) (hr : ¬ (-1048576 ≤ k + e ∧ k + e ≤ 1048576)) :
    Calls Tryd.prog 19 #[ZV s p m c, .int .i64 e] w fun en w' => MakeP w.heap.size w' en z e ∧ Below w.heap.size w w' := by
  have H : Hid (ZN w s p m c z) := h
  have HE : Hid (-3145728 ≤ e ∧ e ≤ 3145728) := he
  have TB : Hid (Tab w) := hT
  have HZ : Hid (z ≠ 0) := hz
  have HR : Hid (¬ (-1048576 ≤ k + e ∧ k + e ≤ 1048576)) := hr
  have HK : Hid (TzO z.natAbs k) := hk
  clear h he hT hz hr
  go_enter Tryd.func19, Tryd.ntmps19
  go_wp2_with fail
  obtain ⟨W0, hW0⟩ : ∃ W0, W0 = ((w.alloc (.cells #[.bool s, .slice p m c] 33)).alloc (.cells #[.bool false, .slice none 0 0, .int .i64 0] 35)) := ⟨_, rfl⟩
  have Xm : Hid (Box W0 (w.heap.size) (.bool s) (.slice p m c)) := by rw [hW0]; exact ⟨by go_simp, by go_simp, by go_simp, by go_simp⟩
  have Xr : Hid (B3q W0 (w.heap.size + 1) (.bool false) (.slice none 0 0) (.int .i64 0)) := by rw [hW0]; exact ⟨by go_simp, by go_simp, by go_simp, by go_simp, by go_simp, by go_simp⟩
  have hb0 : Below w.heap.size w W0 := by rw [hW0]; exact below2 w _ _
  rw [← hW0]
  clear hW0
  have hbw : Below w.heap.size w w := Below.refl _ _
  obtain ⟨gr, hgr⟩ : ∃ g, g = w.heap.size + 1 := ⟨_, rfl⟩
  have HGr : Hid (w.heap.size ≤ gr) := by rw [hgr]; show _ ≤ _; omega
  rw [← hgr] at Xr
  try rw [← hgr]
  obtain ⟨gm, hgm⟩ : ∃ g, g = w.heap.size := ⟨_, rfl⟩
  have HGm : Hid (w.heap.size ≤ gm) := by rw [hgm]; show _ ≤ _; omega
  rw [← hgm] at Xm
  try rw [← hgm]
  have HGD : Hid (gm ≠ gr ∧ gr ≠ gm) := by rw [hgm, hgr]; exact ⟨by omega, by omega⟩
  clear hgm hgr
  replace hbw := Below.on hbw hb0
  clear hb0
  refine (zform (H.out.below hbw)).mono ?_
  rintro e v1 ⟨rfl, hb1⟩
  replace Xm : Hid _ := Xm.out.below hb1
  replace Xr : Hid _ := Xr.out.below hb1
  replace hbw := Below.on hbw hb1
  clear hb1
  obtain ⟨cm0, cm1, fm0, fm1⟩ := Xm.out
  have hnem := Xm.out.lt
  go_wp2_with fail
  clear cm0 cm1 fm0 fm1 hnem
  refine (zsign (H.out.below hbw)).mono ?_
  rintro e v2 ⟨rfl, hb2⟩
  obtain ⟨sg, hsg⟩ : ∃ sg, sg = sgnI (z) := ⟨_, rfl⟩
  rw [← hsg]
  have hs0 : (sg == 0) = false := by rw [hsg]; have := HZ.out; unfold sgnI; split <;> (try split) <;> simp <;> omega
  clear hsg
  replace Xm : Hid _ := Xm.out.below hb2
  replace Xr : Hid _ := Xr.out.below hb2
  replace hbw := Below.on hbw hb2
  clear hb2
  obtain ⟨cm0, cm1, fm0, fm1⟩ := Xm.out
  have hnem := Xm.out.lt
  go_wp2_with fail
  clear cm0 cm1 fm0 fm1 hnem
  have hkb : k ≤ 524288 := by
    have h1 := (lim_bits z.natAbs).1 H.out.lim
    rcases hk with ⟨h0, _⟩ | ⟨_, h2, h3⟩
    · exact absurd (Int.natAbs_eq_zero.1 h0) HZ.out
    · have h4 : 2 ^ k ≤ z.natAbs := by
        rcases Nat.lt_or_ge z.natAbs (2 ^ k) with h | h
        · rw [Nat.div_eq_of_lt h] at h3; omega
        · exact h
      have h5 := bitsN_lt z.natAbs
      have h6 := (Nat.pow_lt_pow_iff_right (by omega : 1 < 2)).1 (Nat.lt_of_le_of_lt h4 h5)
      omega
  have HKB : Hid (k ≤ 524288) := hkb
  clear hk hkb
  obtain ⟨xs, hX⟩ := (H.out.below hbw).ex
  refine (trail_any hX.at_ (by have := hX.le; omega) (k := k) (by rw [hX.nf.val]; exact HK.out) (TB.out.below hbw)).mono ?_
  rintro e2 v3 ⟨rfl, hw⟩
  obtain rfl := hw.symm
  clear hw hX
  go_wp2_with fail
  refine (moved_no k e _ (by have := HKB.out; omega) HR.out).mono ?_
  rintro e2 v4 ⟨rfl, hw⟩
  obtain rfl := hw.symm
  clear hw
  obtain ⟨cr0, cr1, cr2, fr0, fr1, fr2⟩ := Xr.out
  have hner : gr < v2.heap.size := World.block_lt_of_cell? v2 _ cr0
  go_wp2_with fail
  refine bodyPost_ret (v := .tuple #[DV false none 0 0 0, .int .i64 5]) (by rw [results_cell_tmp rfl]; go_simp) rfl ⟨.inr ⟨rfl, make_no HZ.out HK.out (by have := HE.out; omega) HR.out⟩, ?_⟩
  first | exact hbw | exact bSet (bSet (bSet hbw _ _ _ HGr.out) _ _ _ HGr.out) _ _ _ HGr.out
theorem makep_z {p : Option Addr} {m c : Nat} {w : World} {z e : Int} {s : Bool} (h : ZN w s p m c z) (hz : z = 0) :
    Calls Tryd.prog 19 #[ZV s p m c, .int .i64 e] w fun en w' => MakeP w.heap.size w' en z e ∧ Below w.heap.size w w' := by
  have H : Hid (ZN w s p m c z) := h
  subst hz
  clear h
  go_enter Tryd.func19, Tryd.ntmps19
  go_wp2_with fail
  obtain ⟨W0, hW0⟩ : ∃ W0, W0 = ((w.alloc (.cells #[.bool s, .slice p m c] 33)).alloc (.cells #[.bool false, .slice none 0 0, .int .i64 0] 35)) := ⟨_, rfl⟩
  have Xm : Hid (Box W0 (w.heap.size) (.bool s) (.slice p m c)) := by rw [hW0]; exact ⟨by go_simp, by go_simp, by go_simp, by go_simp⟩
  have Xr : Hid (B3q W0 (w.heap.size + 1) (.bool false) (.slice none 0 0) (.int .i64 0)) := by rw [hW0]; exact ⟨by go_simp, by go_simp, by go_simp, by go_simp, by go_simp, by go_simp⟩
  have hb0 : Below w.heap.size w W0 := by rw [hW0]; exact below2 w _ _
  rw [← hW0]
  clear hW0
  have hbw : Below w.heap.size w w := Below.refl _ _
  obtain ⟨gr, hgr⟩ : ∃ g, g = w.heap.size + 1 := ⟨_, rfl⟩
  have HGr : Hid (w.heap.size ≤ gr) := by rw [hgr]; show _ ≤ _; omega
  rw [← hgr] at Xr
  try rw [← hgr]
  obtain ⟨gm, hgm⟩ : ∃ g, g = w.heap.size := ⟨_, rfl⟩
  have HGm : Hid (w.heap.size ≤ gm) := by rw [hgm]; show _ ≤ _; omega
  rw [← hgm] at Xm
  try rw [← hgm]
  have HGD : Hid (gm ≠ gr ∧ gr ≠ gm) := by rw [hgm, hgr]; exact ⟨by omega, by omega⟩
  clear hgm hgr
  replace hbw := Below.on hbw hb0
  clear hb0
  refine (zform (H.out.below hbw)).mono ?_
  rintro e v1 ⟨rfl, hb1⟩
  replace Xm : Hid _ := Xm.out.below hb1
  replace Xr : Hid _ := Xr.out.below hb1
  replace hbw := Below.on hbw hb1
  clear hb1
  obtain ⟨cm0, cm1, fm0, fm1⟩ := Xm.out
  have hnem := Xm.out.lt
  go_wp2_with fail
  clear cm0 cm1 fm0 fm1 hnem
  refine (zsign (H.out.below hbw)).mono ?_
  rintro e v2 ⟨rfl, hb2⟩
  rw [show sgnI 0 = 0 from rfl]
  replace Xm : Hid _ := Xm.out.below hb2
  replace Xr : Hid _ := Xr.out.below hb2
  replace hbw := Below.on hbw hb2
  clear hb2
  obtain ⟨cr0, cr1, cr2, fr0, fr1, fr2⟩ := Xr.out
  have hner : gr < v2.heap.size := World.block_lt_of_cell? v2 _ cr0
  go_wp2_with fail
  refine bodyPost_ret (v := .tuple #[DV false none 0 0 0, .int .i64 0]) (by rw [results_cell_tmp rfl]; go_simp) rfl ⟨.inl ⟨_, 0, 0, rfl, ⟨none, 0, [], rfl, ⟨rfl, Dig.nil _, .inl rfl⟩, Nf.nil _, by omega⟩, .inl ⟨rfl, rfl⟩, by rw [dv_zero, dv_zero]⟩, ?_⟩
  first | exact hbw | exact bSet (bSet (bSet hbw _ _ _ HGr.out) _ _ _ HGr.out) _ _ _ HGr.out
theorem makep {p : Option Addr} {m c : Nat} {w : World} {z e : Int} {s : Bool} (h : ZN w s p m c z) (he : -3145728 ≤ e ∧ e ≤ 3145728) (hT : Tab w) :
    Calls Tryd.prog 19 #[ZV s p m c, .int .i64 e] w fun en w' => MakeP w.heap.size w' en z e ∧ Below w.heap.size w w' := by
  by_cases hz : z = 0
  · exact makep_z h hz
  obtain ⟨k, hk⟩ := TzO.ex z.natAbs
  by_cases hr : -1048576 ≤ k + e ∧ k + e ≤ 1048576
  · exact makep_n h he hT hz hk hr
  · exact makep_e h he hT hz hk hr
def formD (s : Bool) (xs : List Nat) (e : Int) : Bool := formB xs && (decide (-1048576 ≤ e) && (decide (e ≤ 1048576) && (if xs.length = 0 then (!s && decide (e = 0)) else decide (xs.getD 0 0 % 2 = 1))))
def formZ (s : Bool) (xs : List Nat) : Bool := formB xs && !(s && decide (xs = []))
structure Pm (f p m l : Int) (S I H : Nat) : Prop where
  fm : Fm f p m l S I
  pt : ∀ (s : Nat) w, s < S → Calls Tryd.prog 38 #[WV p m l, U s] w fun e w' => e = .returned (.tuple #[U (s - (s / H - 1) * H), .int .i64 (l + ((s / H - 1 : Nat) : Int))]) ∧ Below w.heap.size w w'
  hp : 0 < H
  h2 : 2 * H ≤ I
  h9 : 2 * H ≤ 9007199254740992
  lo : -1074 ≤ l ∧ l ≤ -149
  st : ∀ s, s < I → s / H - 1 ≤ 2045
theorem pm_32 : Pm 32 32 24 (-149) 2147483648 2139095040 8388608 :=
  ⟨fm_32, fun s w hs => parts_32 s _ _ rfl rfl hs w, by decide, by decide, by decide, by decide, fun s hs => by omega⟩
theorem pm_64 : Pm 64 64 53 (-1074) 9223372036854775808 9218868437227405312 4503599627370496 :=
  ⟨fm_64, fun s w hs => parts_64 s _ _ rfl rfl hs w, by decide, by decide, by decide, by decide, fun s hs => by omega⟩
theorem results_t4 {fn : Func} {a b c d : Tmp} (h : fn.results = #[.tmp a, .tmp b, .tmp c, .tmp d]) (tmps : Array Value) (P : Program) (w : World) :
    (results fn tmps).run P w = .ok (.tuple #[tmps.getD a undef, tmps.getD b undef, tmps.getD c undef, tmps.getD d undef]) w := by
  simp only [results, h]
  simp
theorem finite_ok {f p m l : Int} {S I H : Nat} (F : Pm f p m l S I H) (b : Nat) (hb : b < 2 * S) (hr : b % S < I) (w : World) :
    Calls Tryd.prog 37 #[.int .i64 f, U b] w fun en w' => en = .returned (.tuple #[PV p m l (decide (S ≤ b)) (b % S), .int .i64 0]) ∧ Below w.heap.size w w' := by
  have HF : Hid (Pm f p m l S I H) := F
  have HR : Hid (b < 2 * S ∧ b % S ≤ I ∧ decide (b % S = I) = false) := ⟨hb, by omega, decide_eq_false (by omega)⟩
  obtain ⟨z, hz⟩ : ∃ z, z = b % S := ⟨_, rfl⟩
  obtain ⟨s, hs⟩ : ∃ s, s = decide (S ≤ b) := ⟨_, rfl⟩
  rw [← hz, ← hs]
  have HZ : Hid (b % S = z ∧ decide (S ≤ b) = s) := ⟨hz.symm, hs.symm⟩
  clear F hb hr hz hs
  go_enter Tryd.func37, Tryd.ntmps37
  go_wp2_with fail
  obtain ⟨W0, hW0⟩ : ∃ W0, W0 = (w.alloc (.cells #[.int .i64 0, .int .i64 0, .int .i64 0, .bool false, .int .u64 0] 60)) := ⟨_, rfl⟩
  have Xr : Hid (B5q W0 (w.heap.size) (.int .i64 0) (.int .i64 0) (.int .i64 0) (.bool false) (.int .u64 0)) := by rw [hW0]; exact ⟨by go_simp, by go_simp, by go_simp, by go_simp, by go_simp, by go_simp, by go_simp, by go_simp, by go_simp, by go_simp⟩
  have hb0 : Below w.heap.size w W0 := by rw [hW0]; exact below1 w _
  rw [← hW0]
  clear hW0
  have hbw : Below w.heap.size w w := Below.refl _ _
  obtain ⟨gr, hgr⟩ : ∃ g, g = w.heap.size := ⟨_, rfl⟩
  have HGr : Hid (w.heap.size ≤ gr) := by rw [hgr]; show _ ≤ _; omega
  rw [← hgr] at Xr
  try rw [← hgr]
  clear hgr
  replace hbw := Below.on hbw hb0
  clear hb0
  refine (ranked_ok HF.out.fm b HR.out.1 HR.out.2.1 _).mono ?_
  rintro e v1 ⟨rfl, hb1⟩
  rw [HZ.out.1, HZ.out.2]
  replace Xr : Hid _ := Xr.out.below hb1
  replace hbw := Below.on hbw hb1
  clear hb1
  go_wp2_with fail
  have Xp0 : Hid (B5q (v1.alloc (.cells #[.int .i64 p, .int .i64 m, .int .i64 l, .bool s, U z] 60)) v1.heap.size (.int .i64 p) (.int .i64 m) (.int .i64 l) (.bool s) (U z)) := B5q.new v1 _ _ _ _ _ _
  have hbn : Below v1.heap.size v1 (v1.alloc (.cells #[.int .i64 p, .int .i64 m, .int .i64 l, .bool s, U z] 60)) := below1 v1 _
  generalize v1.alloc (.cells #[.int .i64 p, .int .i64 m, .int .i64 l, .bool s, U z] 60) = Wp at *
  have HGp : Hid (w.heap.size ≤ v1.heap.size) := hbw.size
  replace Xr : Hid _ := Xr.out.below hbn
  replace hbw := Below.on hbw hbn
  clear hbn
  generalize v1.heap.size = gp at *
  have Xp := Xp0
  clear Xp0
  refine (HF.out.fm.cls s z _).mono ?_
  rintro e2 v2 ⟨c, rfl, hc4, hc3, hb2⟩
  have hc0 : (c == 3) = false := by rw [hc3, ← HZ.out.1]; exact HR.out.2.2
  clear hc4 hc3
  replace Xr : Hid _ := Xr.out.below hb2
  replace Xp : Hid _ := Xp.out.below hb2
  replace hbw := Below.on hbw hb2
  clear hb2
  obtain ⟨cp0, cp1, cp2, cp3, cp4, fp0, fp1, fp2, fp3, fp4⟩ := Xp.out
  have hnep : gp < v2.heap.size := World.block_lt_of_cell? v2 _ cp0
  obtain ⟨cr0, cr1, cr2, cr3, cr4, fr0, fr1, fr2, fr3, fr4⟩ := Xr.out
  have hner : gr < v2.heap.size := World.block_lt_of_cell? v2 _ cr0
  go_wp2_with fail
  refine bodyPost_ret (v := .tuple #[PV p m l s z, .int .i64 0]) (by rw [results_cell_tmp rfl]; go_simp) rfl ⟨rfl, ?_⟩
  exact bSet (bSet (bSet (bSet (bSet hbw _ _ _ HGr.out) _ _ _ HGr.out) _ _ _ HGr.out) _ _ _ HGr.out) _ _ _ HGr.out
theorem split_ok {f p m l : Int} {S I H : Nat} (F : Pm f p m l S I H) (b : Nat) (hb : b < 2 * S) (hr : b % S < I) (w : World) :
    Calls Tryd.prog 18 #[.int .i64 f, U b] w fun en w' => en = .returned (.tuple #[.bool (decide (S ≤ b)), U (b % S - (b % S / H - 1) * H), .int .i64 (l + ((b % S / H - 1 : Nat) : Int)), .int .i64 0]) ∧ Below w.heap.size w w' := by
  have HF : Hid (Pm f p m l S I H) := F
  have hS : b % S < S := Nat.mod_lt _ (by have := F.fm.lt; omega)
  have HR : Hid (b < 2 * S ∧ b % S < I ∧ b % S < S) := ⟨hb, hr, hS⟩
  obtain ⟨z, hz⟩ : ∃ z, z = b % S := ⟨_, rfl⟩
  obtain ⟨s, hs⟩ : ∃ s, s = decide (S ≤ b) := ⟨_, rfl⟩
  rw [← hz, ← hs]
  have HZ : Hid (b % S = z ∧ decide (S ≤ b) = s) := ⟨hz.symm, hs.symm⟩
  clear F hb hr hz hs hS
  go_enter Tryd.func18, Tryd.ntmps18
  go_wp2_with fail
  have hbw : Below w.heap.size w w := Below.refl _ _
  refine (finite_ok HF.out b HR.out.1 HR.out.2.1 _).mono ?_
  rintro e v1 ⟨rfl, hb1⟩
  rw [HZ.out.1, HZ.out.2]
  replace hbw := Below.on hbw hb1
  clear hb1
  go_wp2_with fail
  have Xp0 : Hid (B5q (v1.alloc (.cells #[.int .i64 p, .int .i64 m, .int .i64 l, .bool s, U z] 60)) v1.heap.size (.int .i64 p) (.int .i64 m) (.int .i64 l) (.bool s) (U z)) := B5q.new v1 _ _ _ _ _ _
  have hbn : Below v1.heap.size v1 (v1.alloc (.cells #[.int .i64 p, .int .i64 m, .int .i64 l, .bool s, U z] 60)) := below1 v1 _
  generalize v1.alloc (.cells #[.int .i64 p, .int .i64 m, .int .i64 l, .bool s, U z] 60) = Wp at *
  have HGp : Hid (w.heap.size ≤ v1.heap.size) := hbw.size
  replace hbw := Below.on hbw hbn
  clear hbn
  generalize v1.heap.size = gp at *
  have Xp := Xp0
  clear Xp0
  refine (HF.out.pt z _ (by have := HR.out.2.2; rw [HZ.out.1] at this; exact this)).mono ?_
  rintro e v2 ⟨rfl, hb2⟩
  replace Xp : Hid _ := Xp.out.below hb2
  replace hbw := Below.on hbw hb2
  clear hb2
  obtain ⟨cp0, cp1, cp2, cp3, cp4, fp0, fp1, fp2, fp3, fp4⟩ := Xp.out
  have hnep : gp < v2.heap.size := World.block_lt_of_cell? v2 _ cp0
  go_wp2_with fail
  clear cp0 cp1 cp2 cp3 cp4 fp0 fp1 fp2 fp3 fp4 hnep
  refine bodyPost_ret (v := .tuple #[.bool s, U (z - (z / H - 1) * H), .int .i64 (l + ((z / H - 1 : Nat) : Int)), .int .i64 0]) (by rw [results_t4 rfl]; go_simp) rfl ⟨rfl, hbw⟩
theorem value_ok {f p m l : Int} {S I H : Nat} (F : Pm f p m l S I H) (b : Nat) (hb : b < 2 * S) (hr : b % S < I) (w : World) (hT : Tab w) :
    Calls Tryd.prog 7 #[.int .i64 f, U b] w fun en w' => MakeP w.heap.size w' en (if S ≤ b then -(((b % S - (b % S / H - 1) * H) : Nat) : Int) else (((b % S - (b % S / H - 1) * H) : Nat) : Int)) (l + ((b % S / H - 1 : Nat) : Int)) ∧ Below w.heap.size w w' := by
  have HF : Hid (Pm f p m l S I H) := F
  have TB : Hid (Tab w) := hT
  have HR : Hid (b < 2 * S ∧ b % S < I) := ⟨hb, hr⟩
  have hst := F.st _ hr
  have hlo := F.lo
  have h9 := F.h9
  have hp := F.hp
  obtain ⟨q, hq⟩ : ∃ q, q = b % S / H - 1 := ⟨_, rfl⟩
  have hmn : b % S - q * H < 2 * H := by
    have h1 := Nat.div_add_mod (b % S) H
    have h2 := Nat.mod_lt (b % S) hp
    rw [Nat.mul_comm] at h1
    by_cases h3 : b % S / H = 0
    · rw [h3] at h1; omega
    · rw [hq, Nat.sub_mul]; omega
  obtain ⟨mn, hmn2⟩ : ∃ mn, mn = b % S - q * H := ⟨_, rfl⟩
  obtain ⟨ex, hex⟩ : ∃ ex : Int, ex = l + (q : Int) := ⟨_, rfl⟩
  obtain ⟨s, hs⟩ : ∃ s, s = decide (S ≤ b) := ⟨_, rfl⟩
  have hsv : (if S ≤ b then -((mn : Nat) : Int) else ((mn : Nat) : Int)) = iv (s && decide (mn ≠ 0)) mn := by
    rw [hs]
    by_cases h1 : S ≤ b
    · rw [if_pos h1, decide_eq_true h1, Bool.true_and]
      by_cases h2 : mn = 0
      · rw [h2]; rfl
      · rw [decide_eq_true h2]; rfl
    · rw [if_neg h1, decide_eq_false h1, Bool.false_and]; rfl
  rw [← hq, ← hmn2, ← hex, hsv]
  obtain ⟨zv, hzv⟩ : ∃ zv, zv = iv (s && decide (mn ≠ 0)) mn := ⟨_, rfl⟩
  rw [← hzv]
  have HZV : Hid (zv = iv (s && decide (mn ≠ 0)) mn) := hzv
  rw [← hmn2] at hmn
  have HX : Hid (b % S - (b % S / H - 1) * H = mn ∧ (l + ((b % S / H - 1 : Nat) : Int)) = ex ∧ decide (S ≤ b) = s) := ⟨by rw [← hq]; exact hmn2.symm, by rw [← hq]; exact hex.symm, hs.symm⟩
  have HM : Hid (mn < B64 ∧ -3145728 ≤ ex ∧ ex ≤ 3145728) := ⟨by rw [B64_eq]; omega, by omega, by omega⟩
  clear F hb hr hT hst hlo h9 hp hmn hmn2 hex hs hsv hq hzv
  go_enter Tryd.func7, Tryd.ntmps7
  go_wp2_with fail
  obtain ⟨W0, hW0⟩ : ∃ W0, W0 = (w.alloc (.cells #[.bool false, .slice none 0 0, .int .i64 0] 35)) := ⟨_, rfl⟩
  have Xr : Hid (B3q W0 (w.heap.size) (.bool false) (.slice none 0 0) (.int .i64 0)) := by rw [hW0]; exact ⟨by go_simp, by go_simp, by go_simp, by go_simp, by go_simp, by go_simp⟩
  have hb0 : Below w.heap.size w W0 := by rw [hW0]; exact below1 w _
  rw [← hW0]
  clear hW0
  have hbw : Below w.heap.size w w := Below.refl _ _
  obtain ⟨gr, hgr⟩ : ∃ g, g = w.heap.size := ⟨_, rfl⟩
  have HGr : Hid (w.heap.size ≤ gr) := by rw [hgr]; show _ ≤ _; omega
  rw [← hgr] at Xr
  try rw [← hgr]
  clear hgr
  replace hbw := Below.on hbw hb0
  clear hb0
  refine (split_ok HF.out b HR.out.1 HR.out.2 _).mono ?_
  rintro e v1 ⟨rfl, hb1⟩
  rw [HX.out.1, HX.out.2.1, HX.out.2.2]
  replace Xr : Hid _ := Xr.out.below hb1
  replace hbw := Below.on hbw hb1
  clear hb1
  cases s
  · have HEQ : Hid (iv false mn = zv ∧ True) := ⟨HZV.out.symm, trivial⟩
    clear HZV
    go_wp2_with fail
    refine (word_any mn _ HM.out.1).mono ?_
    rintro e2 v2 ⟨p2, m2, z2, rfl, ho2, hn2, hm2, hb2⟩
    replace Xr : Hid _ := Xr.out.below hb2
    replace hbw := Below.on hbw hb2
    clear hb2
    have Z2 : Hid (ZN v2 false p2 m2 m2 zv) := (ZN.of (t := false) (Num.of ho2 hn2 (by omega)) (fun h => by cases h)).cast HEQ.out.1
    clear ho2 hn2 hm2
    go_wp2_with fail
    have HRL : Hid (gr < v2.heap.size ∧ w.heap.size ≤ v2.heap.size) := ⟨Xr.out.lt, hbw.size⟩
    refine (makep Z2.out HM.out.2 (TB.out.below hbw)).mono ?_
    rintro e2 v6 ⟨hv, hb6⟩
    obtain ⟨s6, p6, m6, eo, er, rfl, hmp⟩ := hv.open
    clear hv
    replace Xr : Hid _ := Xr.out.below hb6
    replace Z2 : Hid _ := Z2.out.below hb6
    replace hbw := Below.on hbw hb6
    clear hb6
    have M6 : Hid (MP v2.heap.size v6 s6 p6 m6 eo er (zv) (ex)) := hmp
    clear hmp
    obtain ⟨cr0, cr1, cr2, fr0, fr1, fr2⟩ := Xr.out
    have hner : gr < v6.heap.size := World.block_lt_of_cell? v6 _ cr0
    go_wp2_with fail
    refine bodyPost_ret (v := .tuple #[DV s6 p6 m6 m6 eo, .int .i64 er]) (by rw [results_cell_tmp rfl]; go_simp) rfl ⟨(M6.out.set HRL.out.1 HRL.out.2 _ _ _).close, ?_⟩
    exact bSet (bSet (bSet hbw _ _ _ HGr.out) _ _ _ HGr.out) _ _ _ HGr.out
  · by_cases hm0 : mn = 0
    · have d1 : ((mn : Int) == 0) = true := by simp [hm0]
      have d2 : ((mn : Int) != 0) = false := by simp [hm0]
      have HM0 : Hid (mn = 0) := hm0
      clear hm0
      have HEQ : Hid (iv false mn = zv ∧ True) := ⟨by rw [HZV.out, HM0.out]; rfl, trivial⟩
      clear HZV
      go_wp2_with fail
      refine (word_any mn _ HM.out.1).mono ?_
      rintro e2 v2 ⟨p2, m2, z2, rfl, ho2, hn2, hm2, hb2⟩
      replace Xr : Hid _ := Xr.out.below hb2
      replace hbw := Below.on hbw hb2
      clear hb2
      have Z2 : Hid (ZN v2 false p2 m2 m2 zv) := (ZN.of (t := false) (Num.of ho2 hn2 (by omega)) (fun h => by cases h)).cast HEQ.out.1
      clear ho2 hn2 hm2
      go_wp2_with fail
      have HRL : Hid (gr < v2.heap.size ∧ w.heap.size ≤ v2.heap.size) := ⟨Xr.out.lt, hbw.size⟩
      refine (makep Z2.out HM.out.2 (TB.out.below hbw)).mono ?_
      rintro e2 v6 ⟨hv, hb6⟩
      obtain ⟨s6, p6, m6, eo, er, rfl, hmp⟩ := hv.open
      clear hv
      replace Xr : Hid _ := Xr.out.below hb6
      replace Z2 : Hid _ := Z2.out.below hb6
      replace hbw := Below.on hbw hb6
      clear hb6
      have M6 : Hid (MP v2.heap.size v6 s6 p6 m6 eo er (zv) (ex)) := hmp
      clear hmp
      obtain ⟨cr0, cr1, cr2, fr0, fr1, fr2⟩ := Xr.out
      have hner : gr < v6.heap.size := World.block_lt_of_cell? v6 _ cr0
      go_wp2_with fail
      refine bodyPost_ret (v := .tuple #[DV s6 p6 m6 m6 eo, .int .i64 er]) (by rw [results_cell_tmp rfl]; go_simp) rfl ⟨(M6.out.set HRL.out.1 HRL.out.2 _ _ _).close, ?_⟩
      exact bSet (bSet (bSet hbw _ _ _ HGr.out) _ _ _ HGr.out) _ _ _ HGr.out
    · have HMN : Hid (mn ≠ 0) := hm0
      have d1 : ((mn : Int) == 0) = false := by simp [hm0]
      have d2 : ((mn : Int) != 0) = true := by simp [hm0]
      clear hm0
      have HEQ : Hid (iv true mn = zv ∧ 0 < mn) := ⟨by rw [HZV.out, decide_eq_true HMN.out]; rfl, by have := HMN.out; omega⟩
      clear HZV
      go_wp2_with fail
      refine (word_any mn _ HM.out.1).mono ?_
      rintro e2 v2 ⟨p2, m2, z2, rfl, ho2, hn2, hm2, hb2⟩
      replace Xr : Hid _ := Xr.out.below hb2
      replace hbw := Below.on hbw hb2
      clear hb2
      have Z2 : Hid (ZN v2 true p2 m2 m2 zv) := (ZN.of (t := true) (Num.of ho2 hn2 (by omega)) (fun _ => HEQ.out.2)).cast HEQ.out.1
      clear ho2 hn2 hm2
      go_wp2_with fail
      have HRL : Hid (gr < v2.heap.size ∧ w.heap.size ≤ v2.heap.size) := ⟨Xr.out.lt, hbw.size⟩
      refine (makep Z2.out HM.out.2 (TB.out.below hbw)).mono ?_
      rintro e2 v6 ⟨hv, hb6⟩
      obtain ⟨s6, p6, m6, eo, er, rfl, hmp⟩ := hv.open
      clear hv
      replace Xr : Hid _ := Xr.out.below hb6
      replace Z2 : Hid _ := Z2.out.below hb6
      replace hbw := Below.on hbw hb6
      clear hb6
      have M6 : Hid (MP v2.heap.size v6 s6 p6 m6 eo er (zv) (ex)) := hmp
      clear hmp
      obtain ⟨cr0, cr1, cr2, fr0, fr1, fr2⟩ := Xr.out
      have hner : gr < v6.heap.size := World.block_lt_of_cell? v6 _ cr0
      go_wp2_with fail
      refine bodyPost_ret (v := .tuple #[DV s6 p6 m6 m6 eo, .int .i64 er]) (by rw [results_cell_tmp rfl]; go_simp) rfl ⟨(M6.out.set HRL.out.1 HRL.out.2 _ _ _).close, ?_⟩
      exact bSet (bSet (bSet hbw _ _ _ HGr.out) _ _ _ HGr.out) _ _ _ HGr.out
theorem beyond_32 (w : World) : Calls Tryd.prog 13 #[WV 32 24 (-149)] w fun e w' => e = .returned (.int .i64 128) ∧ Below w.heap.size w w' := by
  go_enter Tryd.func13, Tryd.ntmps13
  go_wp2_with fail
  have X0 : B3 (w.alloc (.cells #[.int .i64 32, .int .i64 24, .int .i64 (-149)] 47)) w.heap.size (.int .i64 32) (.int .i64 24) (.int .i64 (-149)) := B3.new ..
  have hb0 : Below w.heap.size w (w.alloc (.cells #[.int .i64 32, .int .i64 24, .int .i64 (-149)] 47)) := bwAlloc w _
  generalize w.alloc (.cells #[.int .i64 32, .int .i64 24, .int .i64 (-149)] 47) = W at *
  obtain ⟨g, hg⟩ : ∃ g, g = w.heap.size := ⟨_, rfl⟩
  rw [← hg] at X0 ⊢
  clear hg
  have XB : Hid (B3 W.drew g (.int .i64 32) (.int .i64 24) (.int .i64 (-149))) := X0.drew
  have HBW : Hid (Below w.heap.size w W.drew) := bwDrew hb0
  have XW : Hid (B3 W g (.int .i64 32) (.int .i64 24) (.int .i64 (-149))) := X0
  have HB0 : Hid (Below w.heap.size w W) := hb0
  clear X0 hb0
  refine wp_region_J (fun W' => B3 W' g (.int .i64 32) (.int .i64 24) (.int .i64 (-149))) (by kernel_rfl) ?_
  refine wpJ_take (i := 0) (v := ?v1x0) rfl (by kernel_rfl) (by kernel_rfl) (by kernel_rfl) (fun _ _ _ h => h) (by rfl) ?hy1x0 XB.out ?rest1x0
  case hy1x0 => (intro W' hJ; obtain ⟨c0, c1, c2, c3, c4, c5⟩ := hJ; go_simp; first | done | with_reducible rfl)
  refine wpJ_take (i := 2) (v := ?v2x2) rfl (by kernel_rfl) (by kernel_rfl) (by kernel_rfl) (fun _ _ _ h => h) (by rfl) ?hy2x2 XB.out ?rest2x2
  case hy2x2 => (intro W' hJ; obtain ⟨c0, c1, c2, c3, c4, c5⟩ := hJ; go_simp; first | done | with_reducible rfl)
  refine wpJ_on 1 rfl fun K hK => ?_
  go_simp
  refine (infinity_32 _).mono ?_
  rintro e w1 ⟨rfl, hb1⟩
  have Xw1 : Hid (B3 w1 g (.int .i64 32) (.int .i64 24) (.int .i64 (-149))) := XB.out.below hb1
  have HBw1 : Hid (Below w.heap.size w w1) := bwOn HBW.out hb1
  clear hb1
  refine hK _ _ Xw1.out ?_
  clear hK
  refine wpJ_on 3 rfl fun K hK => ?_
  go_simp
  refine (stored_32 _).mono ?_
  rintro e w2 ⟨rfl, hb2⟩
  have Xw2 : Hid (B3 w2 g (.int .i64 32) (.int .i64 24) (.int .i64 (-149))) := Xw1.out.below hb2
  have HBw2 : Hid (Below w.heap.size w w2) := bwOn HBw1.out hb2
  clear hb2
  refine hK _ _ Xw2.out ?_
  clear hK
  refine wpJ_take (i := 4) (v := ?v3x4) rfl (by kernel_rfl) (by kernel_rfl) (by kernel_rfl) (fun _ _ _ h => h) (by rfl) ?hy3x4 Xw2.out ?rest3x4
  case hy3x4 => (intro W' hJ; obtain ⟨c0, c1, c2, c3, c4, c5⟩ := hJ; go_simp; first | done | with_reducible rfl)
  refine wpJ_take (i := 5) (v := ?v4x5) rfl (by kernel_rfl) (by kernel_rfl) (by kernel_rfl) (fun _ _ _ h => h) (by rfl) ?hy4x5 Xw2.out ?rest4x5
  case hy4x5 => (intro W' hJ; obtain ⟨c0, c1, c2, c3, c4, c5⟩ := hJ; go_simp; first | done | with_reducible rfl)
  refine wpJ_take (i := 6) (v := ?v5x6) rfl (by kernel_rfl) (by kernel_rfl) (by kernel_rfl) (fun _ _ _ h => h) (by rfl) ?hy5x6 Xw2.out ?rest5x6
  case hy5x6 => (intro W' hJ; obtain ⟨c0, c1, c2, c3, c4, c5⟩ := hJ; go_simp; first | done | with_reducible rfl)
  refine wpJ_done (by kernel_rfl) ?_ _
  clear XB HBW XW HB0 Xw1 HBw1
  have XB : Hid (B3 w2.drew g (.int .i64 32) (.int .i64 24) (.int .i64 (-149))) := Xw2.out.drew
  have HBW : Hid (Below w.heap.size w w2.drew) := bwDrew HBw2.out
  have hwr : IntKind.i64.wrap 255 = 255 := by decide
  go_wp2_with fail
  refine wp_region_J (fun W' => B3 W' g (.int .i64 32) (.int .i64 24) (.int .i64 (-149))) (by kernel_rfl) ?_
  refine wpJ_take (i := 0) (v := ?v6x0) rfl (by kernel_rfl) (by kernel_rfl) (by kernel_rfl) (fun _ _ _ h => h) (by rfl) ?hy6x0 XB.out ?rest6x0
  case hy6x0 => (intro W' hJ; obtain ⟨c0, c1, c2, c3, c4, c5⟩ := hJ; go_simp; first | done | with_reducible rfl)
  refine wpJ_take (i := 1) (v := ?v7x1) rfl (by kernel_rfl) (by kernel_rfl) (by kernel_rfl) (fun _ _ _ h => h) (by rfl) ?hy7x1 XB.out ?rest7x1
  case hy7x1 => (intro W' hJ; obtain ⟨c0, c1, c2, c3, c4, c5⟩ := hJ; go_simp; first | done | with_reducible rfl)
  refine wpJ_take (i := 2) (v := ?v8x2) rfl (by kernel_rfl) (by kernel_rfl) (by kernel_rfl) (fun _ _ _ h => h) (by rfl) ?hy8x2 XB.out ?rest8x2
  case hy8x2 => (intro W' hJ; obtain ⟨c0, c1, c2, c3, c4, c5⟩ := hJ; go_simp; first | done | with_reducible rfl)
  refine wpJ_take (i := 3) (v := ?v9x3) rfl (by kernel_rfl) (by kernel_rfl) (by kernel_rfl) (fun _ _ _ h => h) (by rfl) ?hy9x3 XB.out ?rest9x3
  case hy9x3 => (intro W' hJ; obtain ⟨c0, c1, c2, c3, c4, c5⟩ := hJ; go_simp; first | done | with_reducible rfl)
  refine wpJ_take (i := 4) (v := ?v10x4) rfl (by kernel_rfl) (by kernel_rfl) (by kernel_rfl) (fun _ _ _ h => h) (by rfl) ?hy10x4 XB.out ?rest10x4
  case hy10x4 => (intro W' hJ; obtain ⟨c0, c1, c2, c3, c4, c5⟩ := hJ; go_simp; first | done | with_reducible rfl)
  refine wpJ_take (i := 5) (v := ?v11x5) rfl (by kernel_rfl) (by kernel_rfl) (by kernel_rfl) (fun _ _ _ h => h) (by rfl) ?hy11x5 XB.out ?rest11x5
  case hy11x5 => (intro W' hJ; obtain ⟨c0, c1, c2, c3, c4, c5⟩ := hJ; go_simp; first | done | with_reducible rfl)
  refine wpJ_on 6 rfl fun K hK => ?_
  go_simp
  refine (stored_32 _).mono ?_
  rintro e w3 ⟨rfl, hb3⟩
  have Xw3 : Hid (B3 w3 g (.int .i64 32) (.int .i64 24) (.int .i64 (-149))) := XB.out.below hb3
  have HBw3 : Hid (Below w.heap.size w w3) := bwOn HBW.out hb3
  clear hb3
  refine hK _ _ Xw3.out ?_
  clear hK
  refine wpJ_take (i := 7) (v := ?v12x7) rfl (by kernel_rfl) (by kernel_rfl) (by kernel_rfl) (fun _ _ _ h => h) (by rfl) ?hy12x7 Xw3.out ?rest12x7
  case hy12x7 => (intro W' hJ; obtain ⟨c0, c1, c2, c3, c4, c5⟩ := hJ; go_simp; first | done | with_reducible rfl)
  refine wpJ_take (i := 8) (v := ?v13x8) rfl (by kernel_rfl) (by kernel_rfl) (by kernel_rfl) (fun _ _ _ h => h) (by rfl) ?hy13x8 Xw3.out ?rest13x8
  case hy13x8 => (intro W' hJ; obtain ⟨c0, c1, c2, c3, c4, c5⟩ := hJ; go_simp; first | done | with_reducible rfl)
  refine wpJ_done (by kernel_rfl) ?_ _
  go_wp2_with fail
  go_ret
  exact ⟨rfl, HBw3.out⟩
theorem unitg_64 (top : Int) (h1 : -1000000000000 ≤ top) (h2 : top ≤ 5000) (w : World) : Calls Tryd.prog 16 #[WV 64 53 (-1074), .int .i64 top] w fun e w' => e = .returned (.int .i64 (max (top - 52) (-1074))) ∧ Below w.heap.size w w' := by
  obtain ⟨r0, hr0⟩ : ∃ r, r = top - 52 := ⟨_, rfl⟩
  obtain ⟨r, hr⟩ : ∃ r, r = max (top - 52) (-1074) := ⟨_, rfl⟩
  have e1 : IntKind.i64.wrap (top - 52) = r0 := by rw [hr0]; simp [IntKind.wrap, IntKind.signed, IntKind.bits]; omega
  have e2 : max r0 (-1074) = r := by omega
  rw [← hr]
  clear hr hr0 h1 h2
  go_enter Tryd.func16, Tryd.ntmps16
  go_wp2_with fail
  have X0 : B3 (w.alloc (.cells #[.int .i64 64, .int .i64 53, .int .i64 (-1074)] 47)) w.heap.size (.int .i64 64) (.int .i64 53) (.int .i64 (-1074)) := B3.new ..
  have hb0 : Below w.heap.size w (w.alloc (.cells #[.int .i64 64, .int .i64 53, .int .i64 (-1074)] 47)) := bwAlloc w _
  generalize w.alloc (.cells #[.int .i64 64, .int .i64 53, .int .i64 (-1074)] 47) = W at *
  obtain ⟨g, hg⟩ : ∃ g, g = w.heap.size := ⟨_, rfl⟩
  rw [← hg] at X0 ⊢
  clear hg
  have XB : Hid (B3 W.drew g (.int .i64 64) (.int .i64 53) (.int .i64 (-1074))) := X0.drew
  have HBW : Hid (Below w.heap.size w W.drew) := bwDrew hb0
  have XW : Hid (B3 W g (.int .i64 64) (.int .i64 53) (.int .i64 (-1074))) := X0
  have HB0 : Hid (Below w.heap.size w W) := hb0
  clear X0 hb0
  refine wp_region_J (fun W' => B3 W' g (.int .i64 64) (.int .i64 53) (.int .i64 (-1074))) (by kernel_rfl) ?_
  refine wpJ_take (i := 0) (v := ?v14x0) rfl (by kernel_rfl) (by kernel_rfl) (by kernel_rfl) (fun _ _ _ h => h) (by rfl) ?hy14x0 XB.out ?rest14x0
  case hy14x0 => (intro W' hJ; obtain ⟨c0, c1, c2, c3, c4, c5⟩ := hJ; go_simp; first | done | with_reducible rfl)
  refine wpJ_take (i := 1) (v := ?v15x1) rfl (by kernel_rfl) (by kernel_rfl) (by kernel_rfl) (fun _ _ _ h => h) (by rfl) ?hy15x1 XB.out ?rest15x1
  case hy15x1 => (intro W' hJ; obtain ⟨c0, c1, c2, c3, c4, c5⟩ := hJ; go_simp; first | done | with_reducible rfl)
  refine wpJ_take (i := 4) (v := ?v16x4) rfl (by kernel_rfl) (by kernel_rfl) (by kernel_rfl) (fun _ _ _ h => h) (by rfl) ?hy16x4 XB.out ?rest16x4
  case hy16x4 => (intro W' hJ; obtain ⟨c0, c1, c2, c3, c4, c5⟩ := hJ; go_simp; first | done | with_reducible rfl)
  refine wpJ_take (i := 5) (v := ?v17x5) rfl (by kernel_rfl) (by kernel_rfl) (by kernel_rfl) (fun _ _ _ h => h) (by rfl) ?hy17x5 XB.out ?rest17x5
  case hy17x5 => (intro W' hJ; obtain ⟨c0, c1, c2, c3, c4, c5⟩ := hJ; go_simp; first | done | with_reducible rfl)
  refine wpJ_on 2 rfl fun K hK => ?_
  go_simp
  refine (stored_64 _).mono ?_
  rintro e w2 ⟨rfl, hb2⟩
  have Xw2 : Hid (B3 w2 g (.int .i64 64) (.int .i64 53) (.int .i64 (-1074))) := XB.out.below hb2
  have HBw2 : Hid (Below w.heap.size w w2) := bwOn HBW.out hb2
  clear hb2
  refine hK _ _ Xw2.out ?_
  clear hK
  refine wpJ_take (i := 3) (v := ?v18x3) rfl (by kernel_rfl) (by kernel_rfl) (by kernel_rfl) (fun _ _ _ h => h) (by rfl) ?hy18x3 Xw2.out ?rest18x3
  case hy18x3 => (intro W' hJ; obtain ⟨c0, c1, c2, c3, c4, c5⟩ := hJ; go_simp; first | done | with_reducible rfl)
  refine wpJ_take (i := 6) (v := ?v19x6) rfl (by kernel_rfl) (by kernel_rfl) (by kernel_rfl) (fun _ _ _ h => h) (by rfl) ?hy19x6 Xw2.out ?rest19x6
  case hy19x6 => (intro W' hJ; obtain ⟨c0, c1, c2, c3, c4, c5⟩ := hJ; go_simp; first | done | with_reducible rfl)
  refine wpJ_take (i := 7) (v := ?v20x7) rfl (by kernel_rfl) (by kernel_rfl) (by kernel_rfl) (fun _ _ _ h => h) (by rfl) ?hy20x7 Xw2.out ?rest20x7
  case hy20x7 => (intro W' hJ; obtain ⟨c0, c1, c2, c3, c4, c5⟩ := hJ; go_simp; first | done | with_reducible rfl)
  refine wpJ_done (by kernel_rfl) ?_ _
  clear XB HBW XW HB0
  go_wp2_with fail
  go_ret
  exact ⟨rfl, HBw2.out⟩
theorem unitg_32 (top : Int) (h1 : -1000000000000 ≤ top) (h2 : top ≤ 5000) (w : World) : Calls Tryd.prog 16 #[WV 32 24 (-149), .int .i64 top] w fun e w' => e = .returned (.int .i64 (max (top - 23) (-149))) ∧ Below w.heap.size w w' := by
  obtain ⟨r0, hr0⟩ : ∃ r, r = top - 23 := ⟨_, rfl⟩
  obtain ⟨r, hr⟩ : ∃ r, r = max (top - 23) (-149) := ⟨_, rfl⟩
  have e1 : IntKind.i64.wrap (top - 23) = r0 := by rw [hr0]; simp [IntKind.wrap, IntKind.signed, IntKind.bits]; omega
  have e2 : max r0 (-149) = r := by omega
  rw [← hr]
  clear hr hr0 h1 h2
  go_enter Tryd.func16, Tryd.ntmps16
  go_wp2_with fail
  have X0 : B3 (w.alloc (.cells #[.int .i64 32, .int .i64 24, .int .i64 (-149)] 47)) w.heap.size (.int .i64 32) (.int .i64 24) (.int .i64 (-149)) := B3.new ..
  have hb0 : Below w.heap.size w (w.alloc (.cells #[.int .i64 32, .int .i64 24, .int .i64 (-149)] 47)) := bwAlloc w _
  generalize w.alloc (.cells #[.int .i64 32, .int .i64 24, .int .i64 (-149)] 47) = W at *
  obtain ⟨g, hg⟩ : ∃ g, g = w.heap.size := ⟨_, rfl⟩
  rw [← hg] at X0 ⊢
  clear hg
  have XB : Hid (B3 W.drew g (.int .i64 32) (.int .i64 24) (.int .i64 (-149))) := X0.drew
  have HBW : Hid (Below w.heap.size w W.drew) := bwDrew hb0
  have XW : Hid (B3 W g (.int .i64 32) (.int .i64 24) (.int .i64 (-149))) := X0
  have HB0 : Hid (Below w.heap.size w W) := hb0
  clear X0 hb0
  refine wp_region_J (fun W' => B3 W' g (.int .i64 32) (.int .i64 24) (.int .i64 (-149))) (by kernel_rfl) ?_
  refine wpJ_take (i := 0) (v := ?v14x0) rfl (by kernel_rfl) (by kernel_rfl) (by kernel_rfl) (fun _ _ _ h => h) (by rfl) ?hy14x0 XB.out ?rest14x0
  case hy14x0 => (intro W' hJ; obtain ⟨c0, c1, c2, c3, c4, c5⟩ := hJ; go_simp; first | done | with_reducible rfl)
  refine wpJ_take (i := 1) (v := ?v15x1) rfl (by kernel_rfl) (by kernel_rfl) (by kernel_rfl) (fun _ _ _ h => h) (by rfl) ?hy15x1 XB.out ?rest15x1
  case hy15x1 => (intro W' hJ; obtain ⟨c0, c1, c2, c3, c4, c5⟩ := hJ; go_simp; first | done | with_reducible rfl)
  refine wpJ_take (i := 4) (v := ?v16x4) rfl (by kernel_rfl) (by kernel_rfl) (by kernel_rfl) (fun _ _ _ h => h) (by rfl) ?hy16x4 XB.out ?rest16x4
  case hy16x4 => (intro W' hJ; obtain ⟨c0, c1, c2, c3, c4, c5⟩ := hJ; go_simp; first | done | with_reducible rfl)
  refine wpJ_take (i := 5) (v := ?v17x5) rfl (by kernel_rfl) (by kernel_rfl) (by kernel_rfl) (fun _ _ _ h => h) (by rfl) ?hy17x5 XB.out ?rest17x5
  case hy17x5 => (intro W' hJ; obtain ⟨c0, c1, c2, c3, c4, c5⟩ := hJ; go_simp; first | done | with_reducible rfl)
  refine wpJ_on 2 rfl fun K hK => ?_
  go_simp
  refine (stored_32 _).mono ?_
  rintro e w2 ⟨rfl, hb2⟩
  have Xw2 : Hid (B3 w2 g (.int .i64 32) (.int .i64 24) (.int .i64 (-149))) := XB.out.below hb2
  have HBw2 : Hid (Below w.heap.size w w2) := bwOn HBW.out hb2
  clear hb2
  refine hK _ _ Xw2.out ?_
  clear hK
  refine wpJ_take (i := 3) (v := ?v18x3) rfl (by kernel_rfl) (by kernel_rfl) (by kernel_rfl) (fun _ _ _ h => h) (by rfl) ?hy18x3 Xw2.out ?rest18x3
  case hy18x3 => (intro W' hJ; obtain ⟨c0, c1, c2, c3, c4, c5⟩ := hJ; go_simp; first | done | with_reducible rfl)
  refine wpJ_take (i := 6) (v := ?v19x6) rfl (by kernel_rfl) (by kernel_rfl) (by kernel_rfl) (fun _ _ _ h => h) (by rfl) ?hy19x6 Xw2.out ?rest19x6
  case hy19x6 => (intro W' hJ; obtain ⟨c0, c1, c2, c3, c4, c5⟩ := hJ; go_simp; first | done | with_reducible rfl)
  refine wpJ_take (i := 7) (v := ?v20x7) rfl (by kernel_rfl) (by kernel_rfl) (by kernel_rfl) (fun _ _ _ h => h) (by rfl) ?hy20x7 Xw2.out ?rest20x7
  case hy20x7 => (intro W' hJ; obtain ⟨c0, c1, c2, c3, c4, c5⟩ := hJ; go_simp; first | done | with_reducible rfl)
  refine wpJ_done (by kernel_rfl) ?_ _
  clear XB HBW XW HB0
  go_wp2_with fail
  go_ret
  exact ⟨rfl, HBw2.out⟩
theorem size_32 (man q : Nat) (u : Int) (hu : u = (q : Int) - 149) (hq : q < 2048) (hm : man ≤ 16777216) (w : World) : Calls Tryd.prog 17 #[WV 32 24 (-149), U man, .int .i64 u] w fun e w' => e = .returned (U (q * 8388608 + man)) ∧ Below w.heap.size w w' := by
  obtain ⟨r, hr⟩ : ∃ r, r = q * 8388608 + man := ⟨_, rfl⟩
  obtain ⟨y, hy⟩ : ∃ y, y = q * 8388608 := ⟨_, rfl⟩
  rw [← hr]
  have e1 : IntKind.i64.wrap (u - -149) = (q : Int) := by simp [IntKind.wrap, IntKind.signed, IntKind.bits]; omega
  have e1' : IntKind.i64.wrap (u + 149) = (q : Int) := by simp [IntKind.wrap, IntKind.signed, IntKind.bits]; omega
  have e2 : IntKind.u64.wrap (q : Int) = (q : Int) := by rw [IntKind.wrap_u64]; omega
  have e3 : IntKind.u64.wrap ((q : Int) * 8388608) = (y : Int) := by rw [IntKind.wrap_u64]; omega
  have e4 : IntKind.u64.wrap ((y : Int) + (man : Int)) = (r : Int) := by rw [IntKind.wrap_u64]; omega
  clear hr hy hq hm hu
  go_enter Tryd.func17, Tryd.ntmps17
  go_wp2_with fail
  have X0 : B3 (w.alloc (.cells #[.int .i64 32, .int .i64 24, .int .i64 (-149)] 47)) w.heap.size (.int .i64 32) (.int .i64 24) (.int .i64 (-149)) := B3.new ..
  have hb0 : Below w.heap.size w (w.alloc (.cells #[.int .i64 32, .int .i64 24, .int .i64 (-149)] 47)) := bwAlloc w _
  generalize w.alloc (.cells #[.int .i64 32, .int .i64 24, .int .i64 (-149)] 47) = W at *
  obtain ⟨g, hg⟩ : ∃ g, g = w.heap.size := ⟨_, rfl⟩
  rw [← hg] at X0 ⊢
  clear hg
  have XB : Hid (B3 W.drew g (.int .i64 32) (.int .i64 24) (.int .i64 (-149))) := X0.drew
  have HBW : Hid (Below w.heap.size w W.drew) := bwDrew hb0
  have XW : Hid (B3 W g (.int .i64 32) (.int .i64 24) (.int .i64 (-149))) := X0
  have HB0 : Hid (Below w.heap.size w W) := hb0
  clear X0 hb0
  refine wp_region_J (fun W' => B3 W' g (.int .i64 32) (.int .i64 24) (.int .i64 (-149))) (by kernel_rfl) ?_
  refine wpJ_take (i := 0) (v := ?v21x0) rfl (by kernel_rfl) (by kernel_rfl) (by kernel_rfl) (fun _ _ _ h => h) (by rfl) ?hy21x0 XB.out ?rest21x0
  case hy21x0 => (intro W' hJ; obtain ⟨c0, c1, c2, c3, c4, c5⟩ := hJ; go_simp; first | done | with_reducible rfl)
  refine wpJ_take (i := 1) (v := ?v22x1) rfl (by kernel_rfl) (by kernel_rfl) (by kernel_rfl) (fun _ _ _ h => h) (by rfl) ?hy22x1 XB.out ?rest22x1
  case hy22x1 => (intro W' hJ; obtain ⟨c0, c1, c2, c3, c4, c5⟩ := hJ; go_simp; first | done | with_reducible rfl)
  refine wpJ_take (i := 2) (v := ?v23x2) rfl (by kernel_rfl) (by kernel_rfl) (by kernel_rfl) (fun _ _ _ h => h) (by rfl) ?hy23x2 XB.out ?rest23x2
  case hy23x2 => (intro W' hJ; obtain ⟨c0, c1, c2, c3, c4, c5⟩ := hJ; go_simp; first | done | with_reducible rfl)
  refine wpJ_take (i := 3) (v := ?v24x3) rfl (by kernel_rfl) (by kernel_rfl) (by kernel_rfl) (fun _ _ _ h => h) (by rfl) ?hy24x3 XB.out ?rest24x3
  case hy24x3 => (intro W' hJ; obtain ⟨c0, c1, c2, c3, c4, c5⟩ := hJ; go_simp; first | done | with_reducible rfl)
  refine wpJ_take (i := 4) (v := ?v25x4) rfl (by kernel_rfl) (by kernel_rfl) (by kernel_rfl) (fun _ _ _ h => h) (by rfl) ?hy25x4 XB.out ?rest25x4
  case hy25x4 => (intro W' hJ; obtain ⟨c0, c1, c2, c3, c4, c5⟩ := hJ; go_simp; first | done | with_reducible rfl)
  refine wpJ_take (i := 5) (v := ?v26x5) rfl (by kernel_rfl) (by kernel_rfl) (by kernel_rfl) (fun _ _ _ h => h) (by rfl) ?hy26x5 XB.out ?rest26x5
  case hy26x5 => (intro W' hJ; obtain ⟨c0, c1, c2, c3, c4, c5⟩ := hJ; go_simp; first | done | with_reducible rfl)
  refine wpJ_take (i := 8) (v := ?v27x8) rfl (by kernel_rfl) (by kernel_rfl) (by kernel_rfl) (fun _ _ _ h => h) (by rfl) ?hy27x8 XB.out ?rest27x8
  case hy27x8 => (intro W' hJ; obtain ⟨c0, c1, c2, c3, c4, c5⟩ := hJ; go_simp; first | done | with_reducible rfl)
  refine wpJ_on 6 rfl fun K hK => ?_
  go_simp
  refine (stored_32 _).mono ?_
  rintro e w2 ⟨rfl, hb2⟩
  have Xw2 : Hid (B3 w2 g (.int .i64 32) (.int .i64 24) (.int .i64 (-149))) := XB.out.below hb2
  have HBw2 : Hid (Below w.heap.size w w2) := bwOn HBW.out hb2
  clear hb2
  refine hK _ _ Xw2.out ?_
  clear hK
  refine wpJ_take (i := 7) (v := ?v28x7) rfl (by kernel_rfl) (by kernel_rfl) (by kernel_rfl) (fun _ _ _ h => h) (by rfl) ?hy28x7 Xw2.out ?rest28x7
  case hy28x7 => (intro W' hJ; obtain ⟨c0, c1, c2, c3, c4, c5⟩ := hJ; go_simp; first | done | with_reducible rfl)
  refine wpJ_take (i := 9) (v := ?v29x9) rfl (by kernel_rfl) (by kernel_rfl) (by kernel_rfl) (fun _ _ _ h => h) (by rfl) ?hy29x9 Xw2.out ?rest29x9
  case hy29x9 => (intro W' hJ; obtain ⟨c0, c1, c2, c3, c4, c5⟩ := hJ; go_simp; first | done | with_reducible rfl)
  refine wpJ_take (i := 10) (v := ?v30x10) rfl (by kernel_rfl) (by kernel_rfl) (by kernel_rfl) (fun _ _ _ h => h) (by rfl) ?hy30x10 Xw2.out ?rest30x10
  case hy30x10 => (intro W' hJ; obtain ⟨c0, c1, c2, c3, c4, c5⟩ := hJ; go_simp; first | done | with_reducible rfl)
  refine wpJ_done (by kernel_rfl) ?_ _
  clear XB HBW XW HB0
  go_wp2_with fail
  go_ret
  exact ⟨rfl, HBw2.out⟩
structure RSubR (w : World) (g N : Nat) (xs ys : List Nat) (i ow : Nat) (ss : List Nat) (wr : World) : Prop where
  bel : Below g w wr
  own : wr.ownsRow g 132 1 (.slice (some ⟨g, 0, none⟩) i N) i (cellsV ss)
  len : ss.length = i
  dig : Dig B32 ss
  car : ow ≤ 1
  sum : valB B32 ss + valB B32 (ys.take i) = valB B32 (xs.take i) + B32 ^ i * ow
theorem RSubR.at_ {w : World} {g N : Nat} {xs ys : List Nat} {i cy : Nat} {ss : List Nat} {wr : World} (h : RSubR w g N xs ys i cy ss wr) : At32 wr (some ⟨g, 0, none⟩) i N ss := by
  rcases h.own.2 with ⟨h', _⟩ | ⟨g', cap', cur, h', hbase, hgc, hcap', hmx, hsz, htake⟩
  · simp at h'
  · simp only [Value.slice.injEq, Option.some.injEq, Addr.mk.injEq, and_true, true_and] at h'
    obtain ⟨rfl, rfl⟩ := h'
    refine ⟨h.len, hcap', hmx, h.dig, .inr ⟨g, 0, rfl, fun jj hj => ?_⟩⟩
    rw [Nat.zero_add, cell_of_row wr g jj _ _ _ hgc]
    have e1 := cellsV_get ss jj (by rw [h.len]; exact hj)
    rw [← htake, Nat.mul_one, List.getElem?_take, if_pos hj] at e1
    rw [← Array.getElem?_toList]; exact e1

theorem lit_at32q (w : World) (x y : Nat) (hx : x < B32) (hy : y < B32) : At32 (w.alloc (.cells #[V x, V y] 132)) (some ⟨w.heap.size, 0, none⟩) 2 2 [x, y] := by
  refine ⟨rfl, Nat.le_refl _, by decide, ?_, .inr ⟨w.heap.size, 0, rfl, ?_⟩⟩
  · intro z hz
    simp at hz
    rcases hz with rfl | rfl <;> assumption
  · intro j hj
    match j, hj with
    | 0, _ => exact World.cell?_alloc_new ..
    | 1, _ => exact World.cell?_alloc_new ..
theorem nf32_nilq : Nf B32 [] 0 := ⟨Dig.nil _, by intro x hx; simp at hx, rfl⟩
theorem rword0 (w : World) : Calls Tryd.prog 75 #[.int .u64 0] w fun e w' => ∃ g, e = .returned (.slice (some ⟨g, 0, none⟩) 0 0) ∧ Below w.heap.size w w' := by
  go_enter Tryd.func75, Tryd.ntmps75
  go_wp2_with fail
  refine (rnorm_any (lit_at32q w 0 0 (by decide) (by decide)) (by omega)).mono ?_
  rw [show trimL [0, 0] = [] from by decide]
  rintro e w1 ⟨g, rfl, hg, hb, hbl⟩
  have hbw := Below.on (below1 w _) hbl
  clear hb hbl
  go_wp2_with fail
  go_ret
  exact ⟨g, rfl, hbw⟩
structure ZR (w : World) (s : Bool) (p : Option Addr) (m : Nat) (z : Int) : Prop where
  ex : ∃ zs, At32 w p m m zs ∧ Nf B32 zs z.natAbs
  sg : s = decide (z < 0)
theorem ZR.below {w w' : World} {s : Bool} {p : Option Addr} {m : Nat} {z : Int} (h : ZR w s p m z) (hb : Below w.heap.size w w') : ZR w' s p m z := by
  obtain ⟨zs, hA, hN⟩ := h.ex
  exact ⟨⟨zs, hA.below hb, hN⟩, h.sg⟩
theorem ZR.cast {w : World} {s : Bool} {p : Option Addr} {m : Nat} {z z' : Int} (h : ZR w s p m z) (e : z = z') : ZR w s p m z' := e ▸ h
theorem ZR.zero {w : World} {s : Bool} {p : Option Addr} {m : Nat} {z : Int} (h : ZR w s p m z) : m = 0 ↔ z = 0 := by
  obtain ⟨zs, hA, hN⟩ := h.ex
  have h1 := hN.zero_iff B32_one
  have h2 := hA.len
  constructor
  · intro e
    have := h1.1 (List.eq_nil_of_length_eq_zero (by omega))
    omega
  · intro e
    have := h1.2 (by omega)
    rw [← h2, this]; rfl
theorem ZR.iv {w : World} {s : Bool} {p : Option Addr} {m : Nat} {z : Int} (h : ZR w s p m z) : Go.Proofs.YthfkkcfjneppmaaDoor.iv s z.natAbs = z := by rw [h.sg]; exact iv_abs z
def GotR (B : Nat) (w' : World) (v : Value) (z : Int) (L : Nat) : Prop := ∃ s g m, v = .agg #[.bool s, .slice (some ⟨g, 0, none⟩) m m] ∧ B ≤ g ∧ ZR w' s (some ⟨g, 0, none⟩) m z ∧ m ≤ L
theorem ZR.set {w : World} {s : Bool} {g m : Nat} {z : Int} (h : ZR w s (some ⟨g, 0, none⟩) m z) (g2 o2 : Nat) (v : Value) (hne : g ≠ g2) : ZR (w.setCell ⟨g2, o2, none⟩ v) s (some ⟨g, 0, none⟩) m z := by
  obtain ⟨zs, hA, hN⟩ := h.ex
  exact ⟨⟨zs, hA.setOther g2 o2 v hne, hN⟩, h.sg⟩
theorem rmk_any {p : Option Addr} {n c : Nat} {xs : List Nat} {a : Nat} {w : World} (s : Bool) (h : At32 w p n c xs) (hx : Nf B32 xs a) (hn : n ≤ 35184372088832) :
    Calls Tryd.prog 53 #[.bool s, .slice p n c] w fun e w' => ∃ v, e = .returned v ∧ GotR w.heap.size w' v (iv s a) n ∧ Below w.heap.size w w' := by
  refine (mk04 s h hn).mono ?_
  rintro e w1 ⟨g, m, hm, rfl, hg, hA, hb⟩
  rw [trimL_of_Top hx.top] at hm hA
  have hl := h.len
  refine ⟨_, rfl, ⟨_, g, m, rfl, hg, ⟨⟨xs, hA, by rw [iv_natAbs]; exact hx⟩, ?_⟩, by omega⟩, hb⟩
  rw [iv_lt]
  have : decide (0 < m) = decide (0 < a) := by
    refine decide_eq_decide.2 ?_
    have h1 := hx.zero_iff B32_one
    constructor
    · intro h0
      rcases Nat.eq_zero_or_pos a with e | e
      · have := h1.2 e; rw [this] at hm; simp at hm; omega
      · exact e
    · intro h0
      rcases Nat.eq_zero_or_pos m with e | e
      · have := h1.1 (List.eq_nil_of_length_eq_zero (by omega)); omega
      · exact e
  rw [this]
theorem divsmall_abs {L x d B V W q r : Nat} (h : V * d + L = W) (hq : L * B + x = q * d + r) : (q + B * V) * d + r = x + B * W := by
  rw [← h, Nat.add_mul, Nat.mul_add]
  have e : B * V * d = B * (V * d) := by rw [Nat.mul_assoc]
  rw [e]
  have e2 : B * L = L * B := Nat.mul_comm _ _
  omega
theorem drop_set_self (qs : List Nat) (j y : Nat) (h : j < qs.length) : (qs.set j y).drop j = y :: qs.drop (j + 1) := by
  rw [List.drop_eq_getElem_cons (by simpa using h), List.getElem_set_self, List.drop_set_of_lt (by omega)]

theorem bSet0 {B : Nat} {a w : World} (h : Below B a w) (g o : Nat) (v : Value) (hB : B ≤ g) : Below B a (w.setCell ⟨g, o, none⟩ v) :=
  h.trans ((Wr.refl g o 1 w).setCell o ⟨by omega, by omega⟩ v |>.below hB)
structure DSm (w : World) (g n d : Nat) (xs : List Nat) (k L : Nat) (qs : List Nat) (wr : World) : Prop where
  bel : Below w.heap.size w wr
  row : Row32 wr g 0 n qs
  lt : L < d
  val : valB B32 (qs.drop k) * d + L = valB B32 (xs.drop k)

theorem rdivsmall {p : Option Addr} {n c : Nat} {xs : List Nat} {w : World} (h : At32 w p n c xs) (hn : n ≤ 1099511627776) (d : Nat) (hd : 1 ≤ d) (hdb : d < B32) :
    Calls Tryd.prog 89 #[.slice p n c, .int .u32 d] w fun e w' => ∃ p' m' zs r, e = .returned (.tuple #[.slice p' m' m', .int .u32 r]) ∧ At32 w' p' m' m' zs ∧ Nf B32 zs (valB B32 xs / d) ∧ m' ≤ n ∧ Below w.heap.size w w' := by
  obtain ⟨i0, hi, hz0, hz1, hz2⟩ := info_parts Tryd.infoU32
  have HLX : Hid (xs.length = n) := h.len
  have hcap := h.cap; have hbig := h.big
  unfold maxLen at hbig
  have hd0 : ((d : Int) == 0) = false := by simp; omega
  have HDB : Hid (1 ≤ d ∧ d < B32) := ⟨hd, hdb⟩
  have hdw : IntKind.u64.wrap (d : Int) = (d : Int) := wrap_mod _ _ (by rw [B32_eq] at hdb; omega)
  clear hdb
  go_enter Tryd.func89, Tryd.ntmps89
  go_wp2_with (at_make; refine wpList_make_full _ rfl _ _ 97 rfl w.heap.size 132 i0 (.int .u32 0) 1 Tryd.underlying97 hi hz0 hz1 _ _ _ _ n rfl rfl (by omega) (by omega) (by rw [hz2]; omega) (by unfold maxLen; omega) (Nat.le_refl _) ?_; intro w1 hown hgrow; have hb := made_blk32 hown hgrow; clear hown hgrow)
  have HO : Hid (DSm w w.heap.size n d xs n 0 (List.replicate n 0) w1) := by
    have hr := hb.1.row (Dig.replicate B32 n B32_pos)
    rw [List.length_replicate] at hr
    refine ⟨hb.2, hr, by omega, ?_⟩
    rw [List.drop_of_length_le (by rw [List.length_replicate]; exact Nat.le_refl _), List.drop_of_length_le (by rw [HLX.out]; exact Nat.le_refl _)]
    simp [valB]
  clear hb
  go_loopg [7, 8] n (fun gk lv iv wr => ∃ (L : Nat) (z : Int) (qs : List Nat), lv = U L ∧ iv = .int .i64 z ∧ z = (gk : Int) - 1 ∧ gk ≤ n ∧ Hid (DSm w w.heap.size n d xs gk L qs wr))
  case atStart => exact ⟨0, (n : Int) - 1, _, rfl, rfl, rfl, Nat.le_refl _, HO⟩
  case round =>
    obtain ⟨L, z, qs, rfl, rfl, hz, hgn, HR⟩ := hrel
    cases gk with
    | zero =>
      obtain rfl : z = -1 := by omega
      have hR := HR.out
      have A32 : At32 wr (some ⟨w.heap.size, 0, none⟩) n n qs := hR.row.at_ (Nat.le_refl _) (by unfold maxLen; omega)
      have hv := hR.val
      rw [List.drop_zero, List.drop_zero] at hv
      have HV : Hid (valB B32 qs = valB B32 xs / d) := by
        show _ = _
        have h1 := hR.lt
        rw [← hv, Nat.mul_comm, Nat.mul_add_div (by omega), Nat.div_eq_of_lt h1, Nat.add_zero]
      have HNF : Hid (Nf B32 (trimL qs) (valB B32 xs / d)) := by
        have := Nf.trim hR.row.dig
        rw [HV.out] at this; exact this
      have hle := trimL_length_le qs
      have HLE : Hid ((trimL qs).length ≤ n) := by have := hR.row.len; show _ ≤ _; omega
      have hLw : IntKind.u32.wrap (L : Int) = (L : Int) := wrap32 L (by have := hR.lt; have := HDB.out.2; omega)
      have hbx := hR.bel
      clear hR hv hle hz HR
      go_wp2_with fail
      refine (rnorm_any A32 (by omega)).mono ?_
      rintro e w5 ⟨g5, rfl, hg5, hblk5, hb5⟩
      have hd5 := HNF.out.dig
      generalize trimL qs = us at *
      go_wp2_with fail
      go_ret2
      exact ⟨_, _, us, _, rfl, hblk5.at_ hd5 rfl (by have := HLE.out; unfold maxLen; omega), HNF.out, HLE.out, Below.on hbx hb5⟩
    | succ j =>
      obtain rfl : z = (j : Int) := by omega
      obtain ⟨g, off, rfl, hc⟩ := h.cells.resolve_left (by omega)
      obtain ⟨x, hx⟩ : ∃ x, x = xs.getD j 0 := ⟨_, rfl⟩
      have hcx0 : w.cell? ⟨g, off + j, none⟩ = some (V x) := by rw [hx]; exact hc j (by omega)
      have hcx : wr.cell? ⟨g, off + j, none⟩ = some (V x) := (HR.out.bel.cell (p := ⟨g, off + j, none⟩) (World.block_lt_of_cell? w _ hcx0)).trans hcx0
      have hxb : x < B32 := by rw [hx]; exact h.dig.getD B32_pos j
      have hjn : j < n := by omega
      have hct : wr.cell? ⟨w.heap.size, j, none⟩ = some (V (qs.getD j 0)) := by
        have := HR.out.row.cell j hjn
        rw [Nat.zero_add] at this; exact this
      have hft : wr.frozen? ⟨w.heap.size, j, none⟩ = false := by
        have := HR.out.row.frozen j hjn
        rw [Nat.zero_add] at this; exact this
      have hL := HR.out.lt
      have hdB := HDB.out.2
      rw [B32_eq] at hdB hxb
      obtain ⟨T, hT⟩ : ∃ T, T = L * 4294967296 + x := ⟨_, rfl⟩
      obtain ⟨lh, hlh⟩ : ∃ lh, lh = L * 4294967296 := ⟨_, rfl⟩
      have f1 : IntKind.u64.wrap ((L : Int) * 4294967296) = (lh : Int) := wrap_mod _ _ (by omega)
      have f2 : IntKind.u64.wrap ((lh : Int) + (x : Int)) = (T : Int) := wrap_mod _ _ (by omega)
      have fx : IntKind.u64.wrap (x : Int) = (x : Int) := wrap_mod _ _ (by omega)
      obtain ⟨Q, hQ⟩ : ∃ Q, Q = T / d := ⟨_, rfl⟩
      obtain ⟨R, hRr⟩ : ∃ R, R = T % d := ⟨_, rfl⟩
      have q1 : (T : Int).tdiv (d : Int) = (Q : Int) := by rw [hQ, Int.tdiv_eq_ediv_of_nonneg (Int.natCast_nonneg T)]; norm_cast
      have q2 : (T : Int) / (d : Int) = (Q : Int) := by rw [hQ]; norm_cast
      have r1 : (T : Int).tmod (d : Int) = (R : Int) := by rw [hRr, Int.tmod_eq_emod_of_nonneg (Int.natCast_nonneg T)]; norm_cast
      have r2 : (T : Int) % (d : Int) = (R : Int) := by rw [hRr]; norm_cast
      have hRd : R < d := by rw [hRr]; exact Nat.mod_lt _ hd
      have hQB : Q < B32 := by
        rw [hQ, B32_eq]
        refine Nat.div_lt_of_lt_mul ?_
        have : L * 4294967296 + 4294967296 ≤ d * 4294967296 := by
          have := Nat.mul_le_mul_right 4294967296 (show L + 1 ≤ d by omega)
          rw [Nat.add_mul] at this; omega
        omega
      have fq : IntKind.u32.wrap (Q : Int) = (Q : Int) := wrap32 Q hQB
      have fq2 : IntKind.u64.wrap (Q : Int) = (Q : Int) := wrap_mod _ _ (by rw [B32_eq] at hQB; omega)
      have fq3 : (Q : Int) % 4294967296 = (Q : Int) := by rw [B32_eq] at hQB; omega
      have hQR : L * B32 + x = Q * d + R := by rw [B32_eq, ← hT, hQ, hRr, Nat.mul_comm]; exact (Nat.div_add_mod T d).symm
      have HS : Hid (DSm w w.heap.size n d xs j R (qs.set j Q) (wr.setCell ⟨w.heap.size, j, none⟩ (V Q))) := by
        have hR := HR.out
        have hs := hR.row.set j Q hjn hQB
        rw [Nat.zero_add] at hs
        refine ⟨bSet0 hR.bel _ _ _ (Nat.le_refl _), hs, hRd, ?_⟩
        rw [drop_set_self qs j Q (by rw [hR.row.len]; exact hjn), valB_cons, valB_drop B32 xs j (by rw [HLX.out]; exact hjn), ← hx]
        exact divsmall_abs hR.val hQR
      clear hz HR hc hx hcx0 hQ hRr hT hlh hQR hL hdB hxb hRd hQB
      go_wp2_with fail
      go_roundg j
      case measure => omega
      case rel => exact ⟨R, (j : Int) - 1, qs.set j Q, rfl, rfl, rfl, by omega, HS⟩
theorem At32.dropq {w : World} {g off n c : Nat} {xs : List Nat} (h : At32 w (some ⟨g, off, none⟩) n c xs) (k : Nat) (hk : k < n) : At32 w (some ⟨g, off + k, none⟩) (n - k) (c - k) (xs.drop k) := by
  refine ⟨by rw [List.length_drop, h.len], by have := h.cap; omega, by have := h.big; unfold maxLen at *; omega, h.dig.drop k, .inr ⟨g, off + k, rfl, fun j hj => ?_⟩⟩
  rcases h.cells with h0 | ⟨g', off', he, hc⟩
  · omega
  · simp only [Option.some.injEq, Addr.mk.injEq, and_true] at he
    obtain ⟨rfl, rfl⟩ := he
    have := hc (k + j) (by omega)
    rw [Nat.add_assoc, this]
    congr 2
    simp [List.getD_eq_getElem?_getD, List.getElem?_drop]
theorem drop_div32q {xs : List Nat} {v k : Nat} (hx : Nf B32 xs v) (hk : k ≤ xs.length) : valB B32 (xs.drop k) = v / B32 ^ k := by
  have h1 := valB_split B32 xs k hk
  have h2 := valB_lt B32_pos (hx.dig.take k)
  rw [List.length_take, Nat.min_eq_left hk] at h2
  rw [← hx.val, h1, Nat.add_mul_div_left _ _ (Nat.pow_pos B32_pos), Nat.div_eq_of_lt h2, Nat.zero_add]

theorem rfshr_any {p : Option Addr} {n c : Nat} {xs : List Nat} {v : Nat} {w : World} (h : At32 w p n c xs) (hx : Nf B32 xs v) (hn : n ≤ 16384) (N : Nat) (hN : 1 ≤ N) (hN2 : N ≤ 9223372036854775807) :
    Calls Tryd.prog 73 #[.slice p n c, .int .i64 N] w fun e w' => ∃ p' m' zs, e = .returned (.slice p' m' m') ∧ At32 w' p' m' m' zs ∧ Nf B32 zs (v / 2 ^ N) ∧ m' ≤ n ∧ Below w.heap.size w w' := by
  have HX : Hid (Nf B32 xs v) := hx
  have hl := h.len
  have cap := h.cap
  have big := h.big
  unfold maxLen at big
  obtain ⟨D, hD⟩ : ∃ D, D = N / 32 := ⟨_, rfl⟩
  obtain ⟨R, hR⟩ : ∃ R, R = N % 32 := ⟨_, rfl⟩
  have d1 : (N : Int).tdiv 32 = (D : Int) := by rw [Int.tdiv_eq_ediv_of_nonneg (by omega)]; omega
  have d2 : (N : Int).tmod 32 = (R : Int) := by rw [Int.tmod_eq_emod_of_nonneg (by omega)]; omega
  have hNp : ¬ (N : Int) ≤ 0 := by omega
  have hN0 : ¬ N = 0 := by omega
  have hR32 : R < 32 := by omega
  have hDb : D ≤ 288230376151711743 := by omega
  have hwD : IntKind.i64.wrap (D : Int) = (D : Int) := by simp [IntKind.wrap, IntKind.signed, IntKind.bits]; omega
  have HD : Hid (2 ^ N = B32 ^ D * 2 ^ R) := by show _ = _; rw [show B32 = 2 ^ 32 from rfl, ← Nat.pow_mul, ← Nat.pow_add]; congr 1; omega
  have HLX : Hid (xs.length = n) := hl
  clear hx hD hR hl
  by_cases hc : n ≤ D
  · have hci : (n : Int) ≤ (D : Int) := by omega
    have hcb : decide (n ≤ D) = true := decide_eq_true hc
    have HZ : Hid (v / 2 ^ N = 0) := by
      show _ = _
      rw [HD.out]
      refine Nat.div_eq_of_lt ?_
      have h1 := nf32_lt HX.out (K := D) (by rw [HLX.out]; exact hc)
      exact Nat.lt_of_lt_of_le h1 (Nat.le_mul_of_pos_right _ (Nat.pow_pos (by decide)))
    clear h
    go_enter Tryd.func73, Tryd.ntmps73
    go_wp2_with fail
    refine (rword0 w).mono ?_
    rintro e w1 ⟨g, rfl, hb⟩
    go_wp2_with fail
    go_ret
    exact ⟨_, 0, [], rfl, At32.empty _ _ 0 (by decide), by rw [HZ.out]; exact nf32_nilq, by omega, hb⟩
  · have hci : ¬ (n : Int) ≤ (D : Int) := by omega
    have hcb : decide (n ≤ D) = false := decide_eq_false hc
    have hDn : D < n := by omega
    have hDc : D < c := by omega
    have hDc2 : D ≤ c := by omega
    have hcD : ¬ c = D := by omega
    have hDn2 : D ≤ n := by omega
    obtain ⟨g, off, rfl, hcs⟩ := h.cells.resolve_left (by omega)
    have A1 : Hid (At32 w (some ⟨g, off + D, none⟩) (n - D) (c - D) (xs.drop D)) := h.dropq D hDn
    obtain ⟨d, hd⟩ : ∃ d, d = 2 ^ R := ⟨_, rfl⟩
    have hd1 : 1 ≤ d := by rw [hd]; exact Nat.pow_pos (by decide)
    have hdB : d < B32 := by rw [hd, show B32 = 2 ^ 32 from rfl]; exact Nat.pow_lt_pow_right (by decide) hR32
    have hdw : IntKind.u32.wrap (d : Int) = (d : Int) := wrap32 d hdB
    have hdI : (2 : Int) ^ R = (d : Int) := by rw [hd]; norm_cast
    have HV : Hid (valB B32 (xs.drop D) / d = v / 2 ^ N) := by
      show _ = _
      rw [HD.out, hd, drop_div32q HX.out (by rw [HLX.out]; omega), Nat.div_div_eq_div_mul]
    have A1d : Hid (At32 w.drew (some ⟨g, off + D, none⟩) (n - D) (c - D) (xs.drop D)) := A1.out.drewN 1
    have hbd : Below w.heap.size w w.drew := bDrew (Below.refl _ _)
    have HDD : Hid (1 ≤ d ∧ d < B32) := ⟨hd1, hdB⟩
    clear h hcs A1 hd hd1 hdB
    go_enter Tryd.func73, Tryd.ntmps73
    go_wp2_with fail
    (go_region_with (go_at_call 89; refine (rdivsmall A1d.out (by omega) d HDD.out.1 HDD.out.2).mono ?_; rintro e w1 ⟨p1, m1, z1, r1, rfl, hA1, hN1, hm1, hb1⟩; have A2 : Hid (At32 w1 p1 m1 m1 z1) := hA1; have N2 : Hid (Nf B32 z1 (v / 2 ^ N)) := (by rw [HV.out] at hN1; exact hN1); have hbw : Below w.heap.size w w1 := Below.on hbd hb1; have hm1' : m1 ≤ n := (by omega); clear hA1 hN1 hb1))
    all_goals
      (go_wp2_with fail
       go_ret
       exact ⟨p1, m1, z1, rfl, A2.out, N2.out, hm1', hbw⟩)
theorem rshr_0 {p : Option Addr} {n c : Nat} {xs : List Nat} {v : Nat} {w : World} (h : At32 w p n c xs) (hx : Nf B32 xs v) (hn : n ≤ 16384) :
    Calls Tryd.prog 73 #[.slice p n c, .int .i64 0] w fun e w' => ∃ g, e = .returned (.slice (some ⟨g, 0, none⟩) n n) ∧ At32 w' (some ⟨g, 0, none⟩) n n xs ∧ Below w.heap.size w w' := by
  have H : Hid (At32 w p n c xs) := h
  have HX : Hid (Nf B32 xs v) := hx
  have HN : Hid (n ≤ 16384) := hn
  have HL : Hid (xs.length = n) := h.len
  clear h hx hn
  go_enter Tryd.func73, Tryd.ntmps73
  go_wp2_with fail
  refine (rnorm_any H.out (by have := HN.out; omega)).mono ?_
  rintro e w1 ⟨g, rfl, hg, hblk, hb⟩
  rw [trimL_of_Top HX.out.top] at hblk ⊢
  rw [HL.out]
  have HB : Hid (At32 w1 (some ⟨g, 0, none⟩) n n xs) := hblk.at_ HX.out.dig HL.out (by unfold maxLen; have := HN.out; omega)
  clear hblk hg
  go_wp2_with fail
  go_ret
  exact ⟨g, rfl, HB.out, hb⟩
theorem DN.set {w : World} {s : Bool} {g m c : Nat} {e z : Int} (h : DN w s (some ⟨g, 0, none⟩) m c e z) (g2 o2 : Nat) (v : Value) (hne : g ≠ g2) : DN (w.setCell ⟨g2, o2, none⟩ v) s (some ⟨g, 0, none⟩) m c e z := by
  obtain ⟨xs, hX⟩ := h.zn.ex
  exact ⟨⟨⟨xs, hX.at_.setOther g2 o2 v hne, hX.nf, hX.le⟩, h.zn.sg⟩, h.fm⟩
end Go.Proofs.YthfkkcfjneppmaaDoor
namespace Go.Proofs.YthfkkcfjneppmaaDoor
open Go.RowKit
set_option maxRecDepth 20000
set_option maxHeartbeats 0
def vs (H s : Nat) : Nat := (s - (s / H - 1) * H) * 2 ^ (s / H - 1)
theorem vs_zero (H : Nat) : vs H 0 = 0 := by unfold vs; simp
theorem vs_succ {H : Nat} (hH : 0 < H) (s : Nat) : vs H s < vs H (s + 1) := by
  have h1 := Nat.div_add_mod s H
  have h2 := Nat.mod_lt s hH
  have h3 := Nat.div_add_mod (s + 1) H
  have h4 := Nat.mod_lt (s + 1) hH
  have h5 : s / H ≤ (s + 1) / H := Nat.div_le_div_right (by omega)
  have h6 : (s + 1) / H ≤ s / H + 1 := by
    have : (s + 1) / H ≤ (s + H) / H := Nat.div_le_div_right (by omega)
    rw [Nat.add_div_right _ hH] at this
    exact this
  unfold vs
  by_cases h7 : (s + 1) / H = s / H
  · rw [h7]
    have hq : (s / H - 1) * H ≤ s := by
      rw [Nat.sub_mul, Nat.mul_comm]; omega
    have hp : 0 < 2 ^ (s / H - 1) := Nat.pow_pos (by omega)
    exact Nat.mul_lt_mul_of_pos_right (by omega) hp
  · have h8 : (s + 1) / H = s / H + 1 := by omega
    rw [h8, Nat.add_sub_cancel]
    rw [h8, Nat.mul_add, Nat.mul_one] at h3
    obtain ⟨k, hk⟩ : ∃ k, k = s / H := ⟨_, rfl⟩
    rw [← hk] at h1 h3 ⊢
    obtain ⟨y, hy⟩ : ∃ y, y = H * k := ⟨_, rfl⟩
    rw [← hy] at h1 h3
    rw [Nat.mul_comm k H, ← hy]
    by_cases h9 : k = 0
    · subst h9
      have : y = 0 := by rw [hy]; simp
      simp
      omega
    · obtain ⟨j, rfl⟩ : ∃ j, k = j + 1 := ⟨k - 1, by omega⟩
      rw [Nat.add_sub_cancel, Nat.pow_succ]
      have hj : j * H + H = y := by rw [hy, Nat.mul_comm H, Nat.add_mul, Nat.one_mul]
      have hp : 0 < 2 ^ j := Nat.pow_pos (by omega)
      have e1 : s + 1 - y = H := by omega
      rw [e1, Nat.mul_comm (2 ^ j) 2, ← Nat.mul_assoc]
      exact Nat.mul_lt_mul_of_pos_right (by omega) hp
theorem vs_mono {H : Nat} (hH : 0 < H) {s t : Nat} (h : s < t) : vs H s < vs H t := by
  induction t with
  | zero => omega
  | succ t ih =>
    rcases Nat.lt_or_ge s t with h1 | h1
    · exact Nat.lt_trans (ih h1) (vs_succ hH t)
    · rw [show s = t by omega]; exact vs_succ hH t
def gR (H : Nat) (r : Int) : Int := if r < 0 then -(vs H r.natAbs : Int) else (vs H r.natAbs : Int)
def rkS (S b : Nat) : Int := if S ≤ b then -((b % S : Nat) : Int) else ((b % S : Nat) : Int)
def svS (S H b : Nat) : Int := gR H (rkS S b)
theorem svS_eq (S H b : Nat) : svS S H b = if S ≤ b then -(vs H (b % S) : Int) else (vs H (b % S) : Int) := by
  have hz := vs_zero H
  unfold svS gR rkS
  by_cases h : S ≤ b
  · rw [if_pos h, if_pos h]
    by_cases h0 : b % S = 0
    · rw [h0, hz]; simp [hz]
    · rw [if_pos (by omega), Int.natAbs_neg, Int.natAbs_natCast]
  · rw [if_neg h, if_neg h, if_neg (by omega), Int.natAbs_natCast]
end Go.Proofs.YthfkkcfjneppmaaDoor
namespace Go.Proofs.YthfkkcfjneppmaaDoor
open Go.RowKit Go.Shelf
set_option maxRecDepth 20000
set_option maxHeartbeats 0
structure VF (S H : Nat) (l : Int) (b : Nat) (zo eo : Int) : Prop where
  fm : DFm zo eo
  v : dv zo eo = dv (svS S H b) l
theorem vf_ex {f p m l : Int} {S I H : Nat} (F : Pm f p m l S I H) {b : Nat} (hr : b % S < I) : ∃ zo eo, VF S H l b zo eo ∧ dv zo eo = dv (if S ≤ b then -(((b % S - (b % S / H - 1) * H : Nat)) : Int) else ((b % S - (b % S / H - 1) * H : Nat) : Int)) (l + ((b % S / H - 1 : Nat) : Int)) := by
  have hst := F.st _ hr
  have hlo := F.lo
  have h9 := F.h9
  have hp := F.hp
  have e1 : dv (if S ≤ b then -(((b % S - (b % S / H - 1) * H : Nat)) : Int) else ((b % S - (b % S / H - 1) * H : Nat) : Int)) (l + ((b % S / H - 1 : Nat) : Int)) = dv (svS S H b) l := by
    rw [dv_up _ (by omega), svS_eq]
    unfold vs
    by_cases h : S ≤ b
    · rw [if_pos h, if_pos h, Int.neg_mul, ← Int.natCast_mul]
    · rw [if_neg h, if_neg h, ← Int.natCast_mul]
  have hmn : b % S - (b % S / H - 1) * H < 2 * H := by
    have h1 := Nat.div_add_mod (b % S) H
    have h2 := Nat.mod_lt (b % S) hp
    rw [Nat.mul_comm] at h1
    by_cases h3 : b % S / H = 0
    · rw [h3] at h1 ⊢; omega
    · rw [Nat.sub_mul]; omega
  obtain ⟨mn, hmn2⟩ : ∃ mn, mn = b % S - (b % S / H - 1) * H := ⟨_, rfl⟩
  rw [← hmn2] at hmn e1 ⊢
  rw [e1]
  obtain ⟨z, hz⟩ : ∃ z : Int, z = (if S ≤ b then -(mn : Int) else (mn : Int)) := ⟨_, rfl⟩
  have hzn : z.natAbs = mn := by rw [hz]; split <;> omega
  rw [← hz] at e1
  by_cases h0 : z = 0
  · exact ⟨0, 0, ⟨.inl ⟨rfl, rfl⟩, by rw [← e1, h0, dv_zero, dv_zero]⟩, by rw [← e1, h0, dv_zero, dv_zero]⟩
  · have h53 : z.natAbs ≤ 2 ^ 53 := by
      have h54 : (2 : Nat) ^ 53 = 9007199254740992 := by decide
      rw [hzn, h54]
      omega
    obtain ⟨zo, eo, g1, g2, _⟩ := form_ex (L := 53) (e := l + ((b % S / H - 1 : Nat) : Int)) h0 (by omega) h53 (by omega)
    exact ⟨zo, eo, ⟨g1, by rw [g2, e1]⟩, by rw [g2, e1]⟩
theorem value_v {f p m l : Int} {S I H : Nat} (F : Pm f p m l S I H) {b : Nat} (hb : b < 2 * S) (hr : b % S < I) {zo eo : Int} (hv : VF S H l b zo eo) (w : World) (hT : Tab w) :
    Calls Tryd.prog 7 #[.int .i64 f, U b] w fun en w' => ∃ v, en = .returned (.tuple #[v, .int .i64 0]) ∧ AnsD w.heap.size w' v zo eo ∧ Below w.heap.size w w' := by
  obtain ⟨z1, e1, v1, v2⟩ := vf_ex F hr
  refine (value_ok F b hb hr w hT).mono fun en w' ⟨h1, h2⟩ => ?_
  obtain ⟨v, h3, h4⟩ := h1.form hv.fm (by rw [hv.v, ← v2, v1.v])
  exact ⟨v, h3, h4, h2⟩
end Go.Proofs.YthfkkcfjneppmaaDoor
