import Derived.Test.YteooedpaeddkcaaDoorOpen
import Derived.Deep.Fields
