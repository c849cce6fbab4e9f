import Derived.Test.YtglkjbkpgfencaaGreatDoorRows
import Derived.ProofKit
import Derived.OpenShut
import Derived.ShutString
import Derived.ChangeOld
import Derived.SizedLaws
import Derived.Test.YtglkjbkpgfencaaGreatDoorMem
namespace Go.Proofs.YtglkjbkpgfencaaGreatDoor
open Go.ChangeShapes Go.WideShapes Go.ChangeAt Go.RowKit
theorem ownK : ownKnob Tryz.prog.godebug = none := by kernel_rfl
end Go.Proofs.YtglkjbkpgfencaaGreatDoor
