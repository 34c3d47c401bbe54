/-
  Package path: what the frame of PathJoins imports.
-/
import Derived.Test.YtfdfncffogjbdaaDoorPsN
import Derived.Test.YtfdfncffogjbdaaDoorPsT
