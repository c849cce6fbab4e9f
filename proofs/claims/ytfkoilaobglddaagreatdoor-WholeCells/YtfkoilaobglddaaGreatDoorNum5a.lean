import Derived.Test.YtfkoilaobglddaaGreatDoorJ10
namespace Go.Proofs.YtfkoilaobglddaaGreatDoor
open Go.RowKit Go.Shelf

end Go.Proofs.YtfkoilaobglddaaGreatDoor

