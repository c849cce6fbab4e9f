import Derived.Test.YtfofoookdlaipaaGreatDoorOpenS
import Derived.Test.YtfofoookdlaipaaGreatDoorJ10
namespace Go.Proofs.YtfofoookdlaipaaGreatDoor
open Go.ChangeShapes Go.WideShapes Go.ChangeAt Go.RowKit Go.Deep

theorem cellsOfRounded : Tryz.prog.cellsOf 24 = 6 := by kernel_rfl
theorem oneCellRounded {fs : Array Field} (h : Tryz.prog.underlying 24 = some (.struct fs)) : oneCellFields Tryz.prog fs = true := by
  have : (match Tryz.prog.underlying 24 with | some (.struct fs) => oneCellFields Tryz.prog fs | _ => false) = true := by kernel_rfl
  rw [h] at this
  exact this
set_option maxRecDepth 20000 in
theorem open_rounded {H : Type} {enc : TypeId × Value → H} {W : World} {r : Reach} {b0 : Nat} {v : Value} {d : DataW H} {ps : List MemPlace}
    (hv : Value.okWide Tryz.prog W r b0 24 v) (h : DataW.Trod enc Tryz.prog W 0 (fun _ => true) true 24 v d ps) :
    ∃ (s : Bool) (hi : Int) (lo : Int) (ex : Int) (mo c : Int), v = .agg #[.bool s, .int .i64 hi, .int .u64 lo, .int .i64 ex, .int .u64 mo, .int .u64 c] ∧ (Lit.int .i64 hi).wf = true ∧ (Lit.int .u64 lo).wf = true ∧ (Lit.int .i64 ex).wf = true ∧ (Lit.int .u64 mo).wf = true ∧ (Lit.int .u64 c).wf = true := by
  obtain ⟨cs, rfl, hsz⟩ := okWide_struct Tryz.underlying24 hv
  obtain ⟨c0, c1, c2, c3, c4, c5, rfl⟩ : ∃ c0 c1 c2 c3 c4 c5, cs = #[c0, c1, c2, c3, c4, c5] := by
    obtain ⟨l⟩ := cs
    match l, hsz.trans cellsOfRounded with
    | [c0, c1, c2, c3, c4, c5], _ => exact ⟨c0, c1, c2, c3, c4, c5, rfl⟩
  obtain ⟨fuel, hf⟩ := h
  have hone := oneCellRounded Tryz.underlying24
  obtain ⟨us, k, _, hux, _, hul, hg⟩ := DataW.trod_struct Tryz.underlying24 hf
  match us, hul with
  | [a0, a1, a2, a3, a4, a5], _ =>
    have x0 := hg 0 _ rfl
    have x1 := hg 1 _ rfl
    have x2 := hg 2 _ rfl
    have x3 := hg 3 _ rfl
    have x4 := hg 4 _ rfl
    have x5 := hg 5 _ rfl
    rw [(hone_of hone 0 _ rfl).1, (hone_of hone 0 _ rfl).2] at x0
    rw [(hone_of hone 1 _ rfl).1, (hone_of hone 1 _ rfl).2] at x1
    rw [(hone_of hone 2 _ rfl).1, (hone_of hone 2 _ rfl).2] at x2
    rw [(hone_of hone 3 _ rfl).1, (hone_of hone 3 _ rfl).2] at x3
    rw [(hone_of hone 4 _ rfl).1, (hone_of hone 4 _ rfl).2] at x4
    rw [(hone_of hone 5 _ rfl).1, (hone_of hone 5 _ rfl).2] at x5
    have q0 : DataW.trod enc Tryz.prog W 0 (fun _ => true) true k 4 [c0] = some a0 := x0
    have q1 : DataW.trod enc Tryz.prog W 0 (fun _ => true) true k 3 [c1] = some a1 := x1
    have q2 : DataW.trod enc Tryz.prog W 0 (fun _ => true) true k 22 [c2] = some a2 := x2
    have q3 : DataW.trod enc Tryz.prog W 0 (fun _ => true) true k 3 [c3] = some a3 := x3
    have q4 : DataW.trod enc Tryz.prog W 0 (fun _ => true) true k 22 [c4] = some a4 := x4
    have q5 : DataW.trod enc Tryz.prog W 0 (fun _ => true) true k 22 [c5] = some a5 := x5
    obtain ⟨s, rfl⟩ := open_fld_bool Tryz.underlying4 q0
    obtain ⟨hi, rfl, w1⟩ := open_fld_int Tryz.underlying3 q1
    obtain ⟨lo, rfl, w2⟩ := open_fld_int Tryz.underlying22 q2
    obtain ⟨ex, rfl, w3⟩ := open_fld_int Tryz.underlying3 q3
    obtain ⟨mo, rfl, w4⟩ := open_fld_int Tryz.underlying22 q4
    obtain ⟨c, rfl, w5⟩ := open_fld_int Tryz.underlying22 q5
    exact ⟨s, hi, lo, ex, mo, c, rfl, w1, w2, w3, w4, w5⟩
end Go.Proofs.YtfofoookdlaipaaGreatDoor

