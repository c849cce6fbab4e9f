import Derived.Test.YtokoolhhfacboaaDoorOpen
import Derived.Deep.Fields
