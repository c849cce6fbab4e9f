import Derived.Test.YtfkoilaobglddaaGreatDoorBb3
namespace Go.Proofs.YtfkoilaobglddaaGreatDoor
open Go.RowKit Go.Shelf

end Go.Proofs.YtfkoilaobglddaaGreatDoor

