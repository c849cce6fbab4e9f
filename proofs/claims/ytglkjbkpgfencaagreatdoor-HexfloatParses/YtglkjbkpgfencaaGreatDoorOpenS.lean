import Derived.Test.YtglkjbkpgfencaaGreatDoorOpen
import Derived.Deep.Fields
