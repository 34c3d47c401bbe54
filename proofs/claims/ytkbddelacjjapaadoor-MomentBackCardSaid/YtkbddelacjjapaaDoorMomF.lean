/-
  The reference of moment: shifted times.
-/
import Derived.Test.YtkbddelacjjapaaDoorMomE
namespace Go.Proofs.YtkbddelacjjapaaDoor.Mom
open Go.RowKit
set_option linter.unusedVariables false
set_option linter.unusedSimpArgs false

end Go.Proofs.YtkbddelacjjapaaDoor.Mom
