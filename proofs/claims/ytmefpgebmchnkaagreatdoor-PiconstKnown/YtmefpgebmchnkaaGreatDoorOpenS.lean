import Derived.Test.YtmefpgebmchnkaaGreatDoorOpen
import Derived.Deep.Fields
