import Derived.Test.YtjlblndbiggllaaDoorOpen
import Derived.Deep.Fields
