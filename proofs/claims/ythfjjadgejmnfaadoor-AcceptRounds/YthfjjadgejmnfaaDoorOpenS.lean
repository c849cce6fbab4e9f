import Derived.Test.YthfjjadgejmnfaaDoorOpen
import Derived.Deep.Fields
