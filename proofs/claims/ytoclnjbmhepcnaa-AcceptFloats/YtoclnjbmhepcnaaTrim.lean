import Derived.Test.YtoclnjbmhepcnaaChecked
import Derived.WalkKit
import Derived.CellFam
import Derived.Deep.QuietTactic
import Derived.BigQuiet
import Derived.Test.YtoclnjbmhepcnaaMem
