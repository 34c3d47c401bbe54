/-
  The law's walk: LimitValid.
-/
import Derived.Test.YthkpcanlimhhfaaLimE
namespace Go.Proofs.Ythkpcanlimhhfaa.Lim
open Go.RowKit
set_option linter.unusedVariables false
set_option linter.unusedSimpArgs false

end Go.Proofs.Ythkpcanlimhhfaa.Lim
