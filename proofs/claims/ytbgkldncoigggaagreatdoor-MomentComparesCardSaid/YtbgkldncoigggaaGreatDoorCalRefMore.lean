/-
  Contracts of datakitref04.Day, in, Date, Weekday, Week, AddMonths.
-/
import Derived.Test.YtbgkldncoigggaaGreatDoorCalRef
import Derived.Test.YtbgkldncoigggaaGreatDoorCalMore
namespace Go.Proofs.YtbgkldncoigggaaGreatDoor.Cal
open Go.RowKit
set_option linter.unusedVariables false
set_option linter.unusedSimpArgs false

end Go.Proofs.YtbgkldncoigggaaGreatDoor.Cal
