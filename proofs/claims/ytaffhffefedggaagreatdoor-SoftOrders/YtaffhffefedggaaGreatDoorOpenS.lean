import Derived.Test.YtaffhffefedggaaGreatDoorOpen
import Derived.Deep.Fields
end Go.Proofs.YtaffhffefedggaaGreatDoor
