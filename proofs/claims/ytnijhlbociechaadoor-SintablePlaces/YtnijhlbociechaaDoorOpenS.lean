import Derived.Test.YtnijhlbociechaaDoorOpen
import Derived.Deep.Fields
