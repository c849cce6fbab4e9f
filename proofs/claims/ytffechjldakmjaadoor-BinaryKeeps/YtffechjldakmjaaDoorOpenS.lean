import Derived.Test.YtffechjldakmjaaDoorOpen
import Derived.Deep.Fields
