import Derived.Test.YtjlblndbiggllaaDoorChecked
import Derived.WalkKit
import Derived.CellFam
import Derived.Deep.QuietTactic
import Derived.BigQuiet
import Derived.Test.YtjlblndbiggllaaDoorMem
