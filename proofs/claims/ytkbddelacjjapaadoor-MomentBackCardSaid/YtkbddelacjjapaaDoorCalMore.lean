/-
  Contracts of calendar.Weekday, Week, AddMonths.
-/
import Derived.Test.YtkbddelacjjapaaDoorCalDtw
namespace Go.Proofs.YtkbddelacjjapaaDoor.Cal
open Go.RowKit
set_option linter.unusedVariables false
set_option linter.unusedSimpArgs false

theorem in_cases (n : Int) : n < 0 ∨ 3652058 < n ∨ (0 ≤ n ∧ n ≤ 3652058) := by omega
end Go.Proofs.YtkbddelacjjapaaDoor.Cal
