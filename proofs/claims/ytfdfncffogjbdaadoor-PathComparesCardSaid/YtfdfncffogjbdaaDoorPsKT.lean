/-
  Package path: what the frames of the laws behind PathCompares import.
-/
import Derived.Test.YtfdfncffogjbdaaDoorPsK
import Derived.Test.YtfdfncffogjbdaaDoorPsT
