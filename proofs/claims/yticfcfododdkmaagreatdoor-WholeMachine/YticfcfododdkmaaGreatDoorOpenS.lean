import Derived.Test.YticfcfododdkmaaGreatDoorOpen
import Derived.Deep.Fields
