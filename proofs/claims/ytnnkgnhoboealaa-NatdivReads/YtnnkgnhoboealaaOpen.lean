import Derived.Test.YtnnkgnhoboealaaRows
import Derived.ProofKit
import Derived.OpenShut
import Derived.ShutString
import Derived.ChangeOld
import Derived.SizedLaws
import Derived.Test.YtnnkgnhoboealaaMem
namespace Go.Proofs.Ytnnkgnhoboealaa
open Go.ChangeShapes Go.WideShapes Go.ChangeAt Go.RowKit
theorem ownK : ownKnob Try.prog.godebug = none := by kernel_rfl
end Go.Proofs.Ytnnkgnhoboealaa
