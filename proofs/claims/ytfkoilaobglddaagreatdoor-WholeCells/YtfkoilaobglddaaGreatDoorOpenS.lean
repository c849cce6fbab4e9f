import Derived.Test.YtfkoilaobglddaaGreatDoorOpen
import Derived.Deep.Fields
namespace Go.Proofs.YtfkoilaobglddaaGreatDoor
open Go.ChangeShapes Go.WideShapes Go.ChangeAt Go.RowKit Go.Deep

end Go.Proofs.YtfkoilaobglddaaGreatDoor

