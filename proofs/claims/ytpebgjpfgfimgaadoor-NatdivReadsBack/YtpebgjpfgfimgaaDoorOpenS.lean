import Derived.Test.YtpebgjpfgfimgaaDoorOpen
import Derived.Deep.Fields
