import Derived.Test.YtfkoilaobglddaaDoorOpen
import Derived.Deep.Fields
namespace Go.Proofs.YtfkoilaobglddaaDoor
open Go.ChangeShapes Go.WideShapes Go.ChangeAt Go.RowKit Go.Deep

end Go.Proofs.YtfkoilaobglddaaDoor

