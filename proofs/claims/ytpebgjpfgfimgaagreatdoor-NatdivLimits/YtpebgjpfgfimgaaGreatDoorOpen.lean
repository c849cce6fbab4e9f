import Derived.Test.YtpebgjpfgfimgaaGreatDoorRows
import Derived.ProofKit
import Derived.OpenShut
import Derived.ShutString
import Derived.ChangeOld
import Derived.SizedLaws
import Derived.Test.YtpebgjpfgfimgaaGreatDoorMem
namespace Go.Proofs.YtpebgjpfgfimgaaGreatDoor
open Go.ChangeShapes Go.WideShapes Go.ChangeAt Go.RowKit
theorem ownK : ownKnob Tryz.prog.godebug = none := by kernel_rfl
end Go.Proofs.YtpebgjpfgfimgaaGreatDoor
