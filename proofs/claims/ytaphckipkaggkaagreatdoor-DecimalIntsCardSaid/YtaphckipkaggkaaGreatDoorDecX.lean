/-
  Contracts of the reference of decimal: sums.
-/
import Derived.Test.YtaphckipkaggkaaGreatDoorDecW
import Derived.Test.YtaphckipkaggkaaGreatDoorDecR
import Derived.Deep.DeepCutAuto
namespace Go.Proofs.YtaphckipkaggkaaGreatDoor.Dec
open Go.RowKit
set_option linter.unusedVariables false
set_option linter.unusedSimpArgs false
open Go.Proofs.YtaphckipkaggkaaGreatDoor.Dig

theorem S_add {a b k : Nat} (h1 : (S a).size ≤ k) (h2 : (S b).size ≤ k) : (S (a + b)).size ≤ k + 1 := by
  rw [S_size, num_len] at *
  rw [Nat.pow_succ]; omega
end Go.Proofs.YtaphckipkaggkaaGreatDoor.Dec
