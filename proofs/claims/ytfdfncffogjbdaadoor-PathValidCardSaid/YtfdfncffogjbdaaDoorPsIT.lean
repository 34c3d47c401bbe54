/-
  Package path: what the frames of its laws import.
-/
import Derived.Test.YtfdfncffogjbdaaDoorPsI
import Derived.Test.YtfdfncffogjbdaaDoorPsT
