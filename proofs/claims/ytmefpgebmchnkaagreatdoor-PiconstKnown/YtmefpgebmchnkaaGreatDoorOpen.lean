import Derived.Test.YtmefpgebmchnkaaGreatDoorRows
import Derived.ProofKit
import Derived.OpenShut
import Derived.ShutString
import Derived.ChangeOld
import Derived.SizedLaws
import Derived.Test.YtmefpgebmchnkaaGreatDoorMem
namespace Go.Proofs.YtmefpgebmchnkaaGreatDoor
open Go.ChangeShapes Go.WideShapes Go.ChangeAt Go.RowKit
theorem ownK : ownKnob Tryz.prog.godebug = none := by kernel_rfl
end Go.Proofs.YtmefpgebmchnkaaGreatDoor
