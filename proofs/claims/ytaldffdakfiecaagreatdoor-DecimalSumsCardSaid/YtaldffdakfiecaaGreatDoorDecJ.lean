/-
  Contracts of the reference of decimal: exact quotients.
-/
import Derived.Test.YtaldffdakfiecaaGreatDoorDecI
namespace Go.Proofs.YtaldffdakfiecaaGreatDoor.Dec
open Go.RowKit
set_option linter.unusedVariables false
set_option linter.unusedSimpArgs false
open Go.Proofs.YtaldffdakfiecaaGreatDoor.Dig

end Go.Proofs.YtaldffdakfiecaaGreatDoor.Dec
