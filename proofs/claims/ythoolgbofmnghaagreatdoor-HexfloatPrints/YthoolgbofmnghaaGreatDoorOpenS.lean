import Derived.Test.YthoolgbofmnghaaGreatDoorOpen
import Derived.Deep.Fields
