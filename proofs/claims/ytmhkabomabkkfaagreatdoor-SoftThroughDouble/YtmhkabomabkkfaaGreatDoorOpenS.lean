import Derived.Test.YtmhkabomabkkfaaGreatDoorOpen
import Derived.Deep.Fields
