import Derived.Test.YtoalblaklcekeaaGreatDoorOpen
import Derived.Deep.Fields
namespace Go.Proofs.YtoalblaklcekeaaGreatDoor
open Go.ChangeShapes Go.WideShapes Go.ChangeAt Go.RowKit Go.Deep

end Go.Proofs.YtoalblaklcekeaaGreatDoor

