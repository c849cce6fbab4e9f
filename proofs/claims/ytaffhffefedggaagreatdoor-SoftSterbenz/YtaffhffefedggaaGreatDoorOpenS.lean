import Derived.Test.YtaffhffefedggaaGreatDoorOpen
import Derived.Deep.Fields
