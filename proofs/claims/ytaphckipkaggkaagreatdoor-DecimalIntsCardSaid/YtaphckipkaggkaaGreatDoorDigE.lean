/-
  Contracts of package digits and its reference: differences of the reference; the pairs.
-/
import Derived.Test.YtaphckipkaggkaaGreatDoorDigD
namespace Go.Proofs.YtaphckipkaggkaaGreatDoor.Dig
open Go.RowKit
set_option linter.unusedVariables false
set_option linter.unusedSimpArgs false

theorem S_short {x n : Nat} (h : (S x).size ≤ n) {y : Nat} (hy : y ≤ x) : (S y).size ≤ n := by
  rw [S_size, num_len] at *; omega
theorem add_size {x y : Nat} (hx : (S x).size ≤ 600) (hy : (S y).size ≤ 600) : (S (x + y)).size ≤ 601 := by
  have h1 := Nat.lt_of_lt_of_le (size_pow (n := x)) (Nat.pow_le_pow_right (show 0 < 10 by omega) hx)
  have h2 := Nat.lt_of_lt_of_le (size_pow (n := y)) (Nat.pow_le_pow_right (show 0 < 10 by omega) hy)
  rw [S_size, num_len]
  revert h1 h2
  generalize hm : 600 = m
  rw [show 601 = m + 1 by omega, Nat.pow_succ]
  omega
end Go.Proofs.YtaphckipkaggkaaGreatDoor.Dig
