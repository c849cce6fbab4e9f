import Derived.Test.YtabmdpfmlnnpnaaDoorRows
import Derived.ProofKit
import Derived.OpenShut
import Derived.ShutString
import Derived.ChangeOld
import Derived.SizedLaws
import Derived.Test.YtabmdpfmlnnpnaaDoorMem
namespace Go.Proofs.YtabmdpfmlnnpnaaDoor
open Go.ChangeShapes Go.WideShapes Go.ChangeAt Go.RowKit
theorem ownK : ownKnob Tryd.prog.godebug = none := by kernel_rfl
end Go.Proofs.YtabmdpfmlnnpnaaDoor
