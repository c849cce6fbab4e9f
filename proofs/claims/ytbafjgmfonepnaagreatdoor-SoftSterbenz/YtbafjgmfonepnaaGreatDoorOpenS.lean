import Derived.Test.YtbafjgmfonepnaaGreatDoorOpen
import Derived.Deep.Fields
