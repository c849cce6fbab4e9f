import Derived.Test.YtfofoookdlaipaaGreatDoorOpenS
import Derived.Test.YtfofoookdlaipaaGreatDoorJ16
namespace Go.Proofs.YtfofoookdlaipaaGreatDoor
open Go.ChangeShapes Go.WideShapes Go.ChangeAt Go.RowKit Go.Deep

theorem cellsOfDyadic : Tryz.prog.cellsOf 34 = 3 := by kernel_rfl
theorem cellsOfIntD : Tryz.prog.cellsOf 32 = 2 := by kernel_rfl
theorem cellsOfiD : Tryz.prog.cellsOf 3 = 1 := by kernel_rfl
theorem oneCellIntD {fs : Array Field} (h : Tryz.prog.underlying 32 = some (.struct fs)) : oneCellFields Tryz.prog fs = true := by
  have : (match Tryz.prog.underlying 32 with | some (.struct fs) => oneCellFields Tryz.prog fs | _ => false) = true := by kernel_rfl
  rw [h] at this
  exact this
set_option maxRecDepth 20000 in
theorem open_dyadic {H : Type} {enc : TypeId × Value → H} {W : World} {r : Reach} {b0 : Nat} {v : Value} {d : DataW H} {ps : List MemPlace}
    (hv : Value.okWide Tryz.prog W r b0 34 v) (h : DataW.Trod enc Tryz.prog W 0 (fun _ => true) true 34 v d ps) :
    ∃ s a len cap e xs, v = DV s a len cap e ∧ At W a len cap xs := by
  obtain ⟨cs, rfl, hsz⟩ := okWide_struct Tryz.underlying34 hv
  obtain ⟨c0, c1, c2, rfl⟩ : ∃ c0 c1 c2, cs = #[c0, c1, c2] := by
    obtain ⟨l⟩ := cs
    match l, hsz.trans cellsOfDyadic with
    | [c0, c1, c2], _ => exact ⟨c0, c1, c2, rfl⟩
  obtain ⟨fuel, hf⟩ := h
  obtain ⟨ys, k, _, hxy, _, hxl, hg⟩ := DataW.trod_struct Tryz.underlying34 hf
  match ys, hxl with
  | [y0, y1], _ =>
    have g0 := hg 0 _ rfl
    have g1 := hg 1 _ rfl
    have k0 : DataW.trod enc Tryz.prog W 0 (fun _ => true) true k 32 [c0, c1] = some y0 := by
      have g' : DataW.trod enc Tryz.prog W 0 (fun _ => true) true k 32 (([c0, c1, c2].drop 0).take (Tryz.prog.cellsOf 32)) = some y0 := g0
      rw [cellsOfIntD] at g'
      exact g'
    have k1 : DataW.trod enc Tryz.prog W 0 (fun _ => true) true k 3 [c2] = some y1 := by
      have g' : DataW.trod enc Tryz.prog W 0 (fun _ => true) true k 3 (([c0, c1, c2].drop 2).take (Tryz.prog.cellsOf 3)) = some y1 := g1
      rw [cellsOfiD] at g'
      exact g'
    clear g0 g1
    have hone := oneCellIntD Tryz.underlying32
    obtain ⟨us, kx, _, hux, _, hul, hgx⟩ := DataW.trod_struct Tryz.underlying32 k0
    match us, hul with
    | [a0, a1], _ =>
      have x0 := hgx 0 _ rfl
      have x1 := hgx 1 _ rfl
      rw [(hone_of hone 0 _ rfl).1, (hone_of hone 0 _ rfl).2] at x0
      rw [(hone_of hone 1 _ rfl).1, (hone_of hone 1 _ rfl).2] at x1
      have q0 : DataW.trod enc Tryz.prog W 0 (fun _ => true) true kx 4 [c0] = some a0 := x0
      have q1 : DataW.trod enc Tryz.prog W 0 (fun _ => true) true kx 30 [c1] = some a1 := x1
      obtain ⟨e, rfl, _⟩ := open_fld_int Tryz.underlying3 k1
      obtain ⟨s, rfl⟩ := open_fld_bool Tryz.underlying4 q0
      obtain ⟨a, len, cap, xs, rfl, hA⟩ := open_fld_at q1
      exact ⟨s, a, len, cap, e, xs, rfl, hA⟩
end Go.Proofs.YtfofoookdlaipaaGreatDoor

