import Derived.Test.YtidggnjnlhjhlaaGreatDoorOpen
import Derived.Deep.Fields
namespace Go.Proofs.YtidggnjnlhjhlaaGreatDoor
open Go.ChangeShapes Go.WideShapes Go.ChangeAt Go.RowKit Go.Deep
theorem open_fld_int {H : Type} {enc : TypeId × Value → H} {W : World} {v : Value} {n : Nat} {y : DataW H × List MemPlace} {t : TypeId} {k : IntKind} (ht : Tryz.prog.underlying t = some (.int k))
    (hf : DataW.trod enc Tryz.prog W 0 (fun _ => true) true n t [v] = some y) : ∃ z, v = .int k z ∧ (Lit.int k z).wf = true := by
  obtain ⟨z, hc, _, hw⟩ := DataW.trod_int ht hf
  simp at hc
  exact ⟨z, hc, hw⟩
end Go.Proofs.YtidggnjnlhjhlaaGreatDoor
