import Derived.Test.YtmmgnkhfaiophaaDoorOpenS
import Derived.Test.YtmmgnkhfaiophaaDoorBt4
import Derived.Deep.Slices
namespace Go.Proofs.YtmmgnkhfaiophaaDoor
open Go.ChangeShapes Go.WideShapes Go.ChangeAt Go.RowKit Go.Deep

theorem cellsOfOp7 : Tryd.prog.cellsOf 49 = 5 := by kernel_rfl
theorem oneCellOp7 {fs : Array Field} (h : Tryd.prog.underlying 49 = some (.struct fs)) : oneCellFields Tryd.prog fs = true := by
  have : (match Tryd.prog.underlying 49 with | some (.struct fs) => oneCellFields Tryd.prog fs | _ => false) = true := by kernel_rfl
  rw [h] at this
  exact this

set_option maxRecDepth 20000 in
/-- A script that came in. -/
theorem open_script7 {H : Type} {enc : TypeId × Value → H} {W : World} {a : Option Addr} {len cap : Nat} {d : DataW H} {ps : List MemPlace}
    (h : DataW.Trod enc Tryd.prog W 0 (fun _ => true) true 22 (.slice a len cap) d ps) : ∃ its, Scr7 W a len cap its := by
  obtain ⟨fuel, hf⟩ := h
  rcases DataW.trod_slice Tryd.underlying22 hf with ⟨hcs, _⟩ | ⟨x, l, c, elems, rest, n, _, hcs, hx, hb, hl, hm, hlen, hel, _, _⟩
  · simp [Value.cells] at hcs
    obtain ⟨rfl, rfl, rfl⟩ := hcs
    exact ⟨[], rfl, Nat.le_refl _, by decide, fun t h => by simp at h, .inl rfl⟩
  · simp [Value.cells] at hcs
    obtain ⟨rfl, rfl, rfl⟩ := hcs
    simp only [Prod.mk.injEq] at hx
    obtain ⟨rfl, _⟩ := hx
    obtain ⟨b, off, spot⟩ := x
    have each : ∀ i, i < len → ∃ t : Op7, (W.cell? ((⟨b, off, spot⟩ : Addr).add (i * 5 + 0)) = some (.int .i64 t.k) ∧ W.cell? ((⟨b, off, spot⟩ : Addr).add (i * 5 + 1)) = some (.int .i64 t.f) ∧
        W.cell? ((⟨b, off, spot⟩ : Addr).add (i * 5 + 2)) = some (U t.b) ∧ W.cell? ((⟨b, off, spot⟩ : Addr).add (i * 5 + 3)) = some (.bool t.neg) ∧ W.cell? ((⟨b, off, spot⟩ : Addr).add (i * 5 + 4)) = some (.int .i64 t.n)) ∧
        t.b < B64 ∧ -9223372036854775808 ≤ t.n ∧ t.n ≤ 9223372036854775807 := by
      intro i hi
      have h1 := hel i hi
      have hie : i < elems.length := by omega
      rw [List.getElem?_eq_getElem hie, Option.bind_eq_some_iff] at h1
      obtain ⟨cs', h2, h3⟩ := h1
      rw [cellsOfOp7] at h2
      obtain ⟨_, hlen5, hcell⟩ := World.cells?_some h2
      obtain ⟨ys, k, _, hxy, _, hxl, hg⟩ := DataW.trod_struct Tryd.underlying49 h3
      have hone := oneCellOp7 Tryd.underlying49
      match ys, hxl, cs', hlen5 with
      | [y0, y1, y2, y3, y4], _, [v0, v1, v2, v3, v4], _ =>
        have g0 := hg 0 _ rfl
        have g1 := hg 1 _ rfl
        have g2 := hg 2 _ rfl
        have g3 := hg 3 _ rfl
        have g4 := hg 4 _ rfl
        rw [(hone_of hone 0 _ rfl).1, (hone_of hone 0 _ rfl).2] at g0
        rw [(hone_of hone 1 _ rfl).1, (hone_of hone 1 _ rfl).2] at g1
        rw [(hone_of hone 2 _ rfl).1, (hone_of hone 2 _ rfl).2] at g2
        rw [(hone_of hone 3 _ rfl).1, (hone_of hone 3 _ rfl).2] at g3
        rw [(hone_of hone 4 _ rfl).1, (hone_of hone 4 _ rfl).2] at g4
        have k0 : DataW.trod enc Tryd.prog W 0 (fun _ => true) true k 3 [v0] = some y0 := g0
        have k1 : DataW.trod enc Tryd.prog W 0 (fun _ => true) true k 36 [v1] = some y1 := g1
        have k2 : DataW.trod enc Tryd.prog W 0 (fun _ => true) true k 23 [v2] = some y2 := g2
        have k3 : DataW.trod enc Tryd.prog W 0 (fun _ => true) true k 4 [v3] = some y3 := g3
        have k4 : DataW.trod enc Tryd.prog W 0 (fun _ => true) true k 3 [v4] = some y4 := g4
        clear g0 g1 g2 g3 g4
        obtain ⟨z0, rfl, _⟩ := open_fld_int Tryd.underlying3 k0
        obtain ⟨z1, rfl, _⟩ := open_fld_int Tryd.underlying36 k1
        obtain ⟨z2, rfl, w2⟩ := open_fld_int Tryd.underlying23 k2
        obtain ⟨z3, rfl⟩ := open_fld_bool Tryd.underlying4 k3
        obtain ⟨z4, rfl, w4⟩ := open_fld_int Tryd.underlying3 k4
        have b2 := wf_u64 w2
        obtain ⟨m2, rfl⟩ := Int.eq_ofNat_of_zero_le b2.1
        have hm2 : m2 < B64 := by rw [B64_eq]; omega
        have e0 := hcell 0 (by omega)
        have e1 := hcell 1 (by omega)
        have e2 := hcell 2 (by omega)
        have e3 := hcell 3 (by omega)
        have e4 := hcell 4 (by omega)
        rw [add_add] at e0 e1 e2 e3 e4
        exact ⟨⟨z0, z1, m2, z3, z4⟩, ⟨e0, e1, e2, e3, e4⟩, hm2, bounds_i64 w4⟩
    have inh : Inhabited Op7 := ⟨⟨0, 0, 0, false, 0⟩⟩
    obtain ⟨q, hq⟩ := choose_lt each
    refine ⟨(List.range len).map q, by simp, hl, hm, ?_, ?_⟩
    · intro t ht
      obtain ⟨i, hi, rfl⟩ := List.mem_map.1 ht
      exact (hq i (List.mem_range.1 hi)).2
    · by_cases h0 : len = 0
      · exact .inl h0
      · have hs := (hq 0 (by omega)).1.1
        have hspot : spot = none := by simpa [Addr.add] using World.cell?_spot hs
        subst hspot
        have hadd : ∀ q : Nat, (⟨b, off, none⟩ : Addr).add q = ⟨b, off + q, none⟩ := by intro q; unfold Addr.add; split <;> simp_all
        refine .inr ⟨b, off, rfl, fun i hi => ?_⟩
        have hi' : i < len := by simpa using hi
        have h5 := (hq i hi').1
        simp only [hadd] at h5
        simpa [Nat.add_assoc] using h5
end Go.Proofs.YtmmgnkhfaiophaaDoor
