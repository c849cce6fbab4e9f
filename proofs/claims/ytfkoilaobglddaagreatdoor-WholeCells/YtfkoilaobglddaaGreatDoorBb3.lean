import Derived.Test.YtfkoilaobglddaaGreatDoorJ24
namespace Go.Proofs.YtfkoilaobglddaaGreatDoor
open Go.RowKit Go.Shelf

end Go.Proofs.YtfkoilaobglddaaGreatDoor

