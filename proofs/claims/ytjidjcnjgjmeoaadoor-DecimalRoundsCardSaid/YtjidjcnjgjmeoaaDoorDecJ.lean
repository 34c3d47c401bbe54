/-
  Contracts of the reference of decimal: exact quotients.
-/
import Derived.Test.YtjidjcnjgjmeoaaDoorDecI
namespace Go.Proofs.YtjidjcnjgjmeoaaDoor.Dec
open Go.RowKit
set_option linter.unusedVariables false
set_option linter.unusedSimpArgs false
open Go.Proofs.YtjidjcnjgjmeoaaDoor.Dig

theorem rq_any (n1 n2 k : Nat) (w : World) (hs1 : (S n1).size ≤ 120) (hs2 : (S n2).size ≤ 120) (hk : k ≤ 400) (hn : 0 < n2) : Calls Tryd.prog 24 #[.string (S n1 ++ noughts k), .string (S n2)] w fun e w' => e = .returned (.tuple #[.string (S (n1 * 10 ^ k / n2)), .string (S (n1 * 10 ^ k % n2)), .int .i64 0]) ∧ Below w.heap.size w w' := by
  rcases Nat.eq_zero_or_pos n1 with h | h
  · subst h
    rw [S_noughts0, Nat.zero_mul, Nat.zero_div, Nat.zero_mod]
    exact rquo_noughts k n2 w (by omega) (by omega) hn
  · rw [S_noughts k h]
    have := S_pow_size (k := k) hs1
    exact rquo_any (n1 * 10 ^ k) n2 w (by omega) (by omega) hn
end Go.Proofs.YtjidjcnjgjmeoaaDoor.Dec
