/-
  What the functions of package datakitref04 do (contracts by walks).
-/
import Derived.Test.YtbgkldncoigggaaGreatDoorCalWalks
namespace Go.Proofs.YtbgkldncoigggaaGreatDoor.Cal
open Go.RowKit
set_option linter.unusedVariables false
set_option linter.unusedSimpArgs false

end Go.Proofs.YtbgkldncoigggaaGreatDoor.Cal
