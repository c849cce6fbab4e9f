import Derived.Test.YtoalblaklcekeaaGreatDoorJ8
namespace Go.Proofs.YtoalblaklcekeaaGreatDoor
open Go.RowKit

end Go.Proofs.YtoalblaklcekeaaGreatDoor

