/-
  The reference of moment: shifted times.
-/
import Derived.Test.YtbgkldncoigggaaGreatDoorMomE
namespace Go.Proofs.YtbgkldncoigggaaGreatDoor.Mom
open Go.RowKit
set_option linter.unusedVariables false
set_option linter.unusedSimpArgs false

end Go.Proofs.YtbgkldncoigggaaGreatDoor.Mom
