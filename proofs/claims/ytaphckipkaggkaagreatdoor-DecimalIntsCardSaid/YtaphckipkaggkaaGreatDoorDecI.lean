/-
  Contracts of package decimal and its reference: exact quotients.
-/
import Derived.Test.YtaphckipkaggkaaGreatDoorDecH
namespace Go.Proofs.YtaphckipkaggkaaGreatDoor.Dec
open Go.RowKit
set_option linter.unusedVariables false
set_option linter.unusedSimpArgs false
open Go.Proofs.YtaphckipkaggkaaGreatDoor.Dig

theorem S_pow_size {n k a : Nat} (h : (S n).size ≤ a) : (S (n * 10 ^ k)).size ≤ a + k := by
  rcases Nat.eq_zero_or_pos n with h0 | h0
  · subst h0; rw [Nat.zero_mul]; show 0 ≤ _; omega
  · rw [S_size, len_pow h0, ← S_size]; omega
theorem S_less {n m a : Nat} (h : (S m).size ≤ a) (hn : n ≤ m) : (S n).size ≤ a := by
  rw [S_size, num_len] at *; omega
theorem S_noughts {n : Nat} (k : Nat) (hn : 0 < n) : S n ++ noughts k = S (n * 10 ^ k) := S_mul hn (noughts_list k)
theorem S_noughts0 (k : Nat) : S 0 ++ noughts k = noughts k := ba_ext (by rw [Joins.data_append]; rfl)
end Go.Proofs.YtaphckipkaggkaaGreatDoor.Dec
