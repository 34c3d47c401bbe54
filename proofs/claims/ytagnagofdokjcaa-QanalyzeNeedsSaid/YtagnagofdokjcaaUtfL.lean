/-
  No table is wanted here.
-/
import Derived.Test.YtagnagofdokjcaaUtfB
