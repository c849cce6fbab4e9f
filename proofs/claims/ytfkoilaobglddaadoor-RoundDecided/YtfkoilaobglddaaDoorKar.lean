import Derived.Test.YtfkoilaobglddaaDoorJ8
namespace Go.Proofs.YtfkoilaobglddaaDoor
open Go.RowKit

end Go.Proofs.YtfkoilaobglddaaDoor

