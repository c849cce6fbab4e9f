import Derived.Test.YtefbfapnclphlaaDoorAs1
import Derived.Test.YtefbfapnclphlaaDoorNf4
namespace Go.Proofs.YtefbfapnclphlaaDoor
open Go.RowKit Go.Shelf

theorem Tab.drew {w : World} (h : Tab w) : Tab w.drew := fun j hj => h j hj
end Go.Proofs.YtefbfapnclphlaaDoor
