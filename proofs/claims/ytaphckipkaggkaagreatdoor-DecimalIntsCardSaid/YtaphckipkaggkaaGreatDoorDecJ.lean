/-
  Contracts of the reference of decimal: exact quotients.
-/
import Derived.Test.YtaphckipkaggkaaGreatDoorDecI
namespace Go.Proofs.YtaphckipkaggkaaGreatDoor.Dec
open Go.RowKit
set_option linter.unusedVariables false
set_option linter.unusedSimpArgs false
open Go.Proofs.YtaphckipkaggkaaGreatDoor.Dig

end Go.Proofs.YtaphckipkaggkaaGreatDoor.Dec
