/-
  Contracts of the reference of digits: quotients.
-/
import Derived.Test.YtaphckipkaggkaaGreatDoorDigH
namespace Go.Proofs.YtaphckipkaggkaaGreatDoor.Dig
open Go.RowKit
set_option linter.unusedVariables false
set_option linter.unusedSimpArgs false

theorem cat_size (r : Nat) (s : ByteArray) (i : Nat) : (S r ++ s.extract i (i + 1)).size ≤ (S r).size + 1 := by
  rw [ByteArray.size_append]
  have : (s.extract i (i + 1)).size ≤ 1 := by
    rw [← size_list, Lib.extract_data, List.length_take]; omega
  omega
end Go.Proofs.YtaphckipkaggkaaGreatDoor.Dig
