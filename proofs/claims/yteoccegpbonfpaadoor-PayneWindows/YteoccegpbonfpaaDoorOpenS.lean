import Derived.Test.YteoccegpbonfpaaDoorOpen
import Derived.Deep.Fields
