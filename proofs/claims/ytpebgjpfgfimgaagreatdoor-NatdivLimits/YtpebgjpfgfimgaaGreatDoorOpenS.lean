import Derived.Test.YtpebgjpfgfimgaaGreatDoorOpen
import Derived.Deep.Fields
