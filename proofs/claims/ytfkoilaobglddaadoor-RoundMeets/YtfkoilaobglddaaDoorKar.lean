import Derived.Test.YtfkoilaobglddaaDoorJ13
namespace Go.Proofs.YtfkoilaobglddaaDoor
open Go.RowKit

end Go.Proofs.YtfkoilaobglddaaDoor

