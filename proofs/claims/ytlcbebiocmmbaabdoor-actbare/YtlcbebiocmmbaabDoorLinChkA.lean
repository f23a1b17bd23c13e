/-
  The program's own look at an act: it stands in LinChk.
-/
import Derived.Test.YtlcbebiocmmbaabDoorLinChk
