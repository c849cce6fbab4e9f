import Derived.Test.YtfkoilaobglddaaDoorJ22
namespace Go.Proofs.YtfkoilaobglddaaDoor
open Go.RowKit Go.Shelf

end Go.Proofs.YtfkoilaobglddaaDoor

