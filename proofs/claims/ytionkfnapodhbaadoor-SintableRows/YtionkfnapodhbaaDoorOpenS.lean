import Derived.Test.YtionkfnapodhbaaDoorOpen
import Derived.Deep.Fields
