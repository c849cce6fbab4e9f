import Derived.Test.YtfkoilaobglddaaDoorBb3
namespace Go.Proofs.YtfkoilaobglddaaDoor
open Go.RowKit Go.Shelf

end Go.Proofs.YtfkoilaobglddaaDoor

