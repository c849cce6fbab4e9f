import Derived.Test.YtmhkabomabkkfaaGreatDoorRows
import Derived.ProofKit
import Derived.OpenShut
import Derived.ShutString
import Derived.ChangeOld
import Derived.SizedLaws
import Derived.Test.YtmhkabomabkkfaaGreatDoorMem
namespace Go.Proofs.YtmhkabomabkkfaaGreatDoor
open Go.ChangeShapes Go.WideShapes Go.ChangeAt Go.RowKit
theorem ownK : ownKnob Tryz.prog.godebug = none := by kernel_rfl
end Go.Proofs.YtmhkabomabkkfaaGreatDoor
