import Derived.Test.YtabmdpfmlnnpnaaDoorOpen
import Derived.Deep.Fields
