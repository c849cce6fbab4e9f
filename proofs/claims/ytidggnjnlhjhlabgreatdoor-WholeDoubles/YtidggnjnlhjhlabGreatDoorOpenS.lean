import Derived.Test.YtidggnjnlhjhlabGreatDoorOpen
import Derived.Deep.Fields
