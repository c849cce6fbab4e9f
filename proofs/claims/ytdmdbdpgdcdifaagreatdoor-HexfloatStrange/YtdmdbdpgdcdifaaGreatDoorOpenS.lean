import Derived.Test.YtdmdbdpgdcdifaaGreatDoorOpen
import Derived.Deep.Fields
