/-
  The law KnownMac: its walk lies in the text that is imported.
-/
import Derived.Test.YtkkibmofmdkhbabDoorKnownWalk
