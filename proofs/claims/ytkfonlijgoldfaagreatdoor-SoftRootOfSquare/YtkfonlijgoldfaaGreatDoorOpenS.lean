import Derived.Test.YtkfonlijgoldfaaGreatDoorOpen
import Derived.Deep.Fields
namespace Go.Proofs.YtkfonlijgoldfaaGreatDoor
open Go.ChangeShapes Go.WideShapes Go.ChangeAt Go.RowKit Go.Deep

end Go.Proofs.YtkfonlijgoldfaaGreatDoor

