import Derived.Test.YthfkkcfjneppmaaDoorOpen
import Derived.Deep.Fields
namespace Go.Proofs.YthfkkcfjneppmaaDoor
open Go.ChangeShapes Go.WideShapes Go.ChangeAt Go.RowKit Go.Deep
theorem open_fld_int {H : Type} {enc : TypeId × Value → H} {W : World} {v : Value} {n : Nat} {y : DataW H × List MemPlace} {t : TypeId} {k : IntKind} (ht : Tryd.prog.underlying t = some (.int k))
    (hf : DataW.trod enc Tryd.prog W 0 (fun _ => true) true n t [v] = some y) : ∃ z, v = .int k z ∧ (Lit.int k z).wf = true := by
  obtain ⟨z, hc, _, hw⟩ := DataW.trod_int ht hf
  simp at hc
  exact ⟨z, hc, hw⟩
theorem open_fld_bool {H : Type} {enc : TypeId × Value → H} {W : World} {v : Value} {n : Nat} {y : DataW H × List MemPlace} {t : TypeId} (ht : Tryd.prog.underlying t = some .bool)
    (hf : DataW.trod enc Tryd.prog W 0 (fun _ => true) true n t [v] = some y) : ∃ b, v = .bool b := by
  obtain ⟨b, hc, _⟩ := DataW.trod_bool ht hf
  simp at hc
  exact ⟨b, hc⟩
end Go.Proofs.YthfkkcfjneppmaaDoor
