import Derived.Test.YthobkfkeaealhaaGreatDoorOpen
import Derived.Deep.Fields
