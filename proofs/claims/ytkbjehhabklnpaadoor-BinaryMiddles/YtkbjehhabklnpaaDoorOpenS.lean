import Derived.Test.YtkbjehhabklnpaaDoorOpen
import Derived.Deep.Fields
namespace Go.Proofs.YtkbjehhabklnpaaDoor
open Go.ChangeShapes Go.WideShapes Go.ChangeAt Go.RowKit Go.Deep

end Go.Proofs.YtkbjehhabklnpaaDoor

