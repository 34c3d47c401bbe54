/-
  Package moment and its reference: days and nanoseconds.
-/
import Derived.Test.YtkbddelacjjapaaDoorMomA
namespace Go.Proofs.YtkbddelacjjapaaDoor.Mom
open Go.RowKit
set_option linter.unusedVariables false
set_option linter.unusedSimpArgs false

theorem ret2i {a b c d : Int} (h1 : a = c) (h2 : b = d) : Ending.returned (.tuple #[.int .i64 a, .int .i64 b]) = .returned (.tuple #[.int .i64 c, .int .i64 d]) := by rw [h1, h2]
theorem tdiv_neg' {n : Int} (h : n < 0) : n.tdiv 86400000000000 = -((-n) / 86400000000000) ∧ n.tmod 86400000000000 = -((-n) % 86400000000000) := by
  obtain ⟨m, rfl⟩ : ∃ m : Int, n = -m := ⟨-n, by omega⟩
  rw [Int.neg_tdiv, Int.neg_tmod, Int.neg_neg, Int.tdiv_eq_ediv_of_nonneg (by omega), Int.tmod_eq_emod_of_nonneg (by omega)]
  exact ⟨rfl, rfl⟩
set_option maxHeartbeats 2000000 in
theorem carry_any (d n : Int) (w : World) (hd : -1000000000 ≤ d ∧ d ≤ 1000000000) (hn : -9223372036854775808 ≤ n ∧ n ≤ 9223372036854775807) : Calls Tryd.prog 20 #[.int .i64 d, .int .i64 n] w fun e w' => e = .returned (.tuple #[.int .i64 (d + n / 86400000000000), .int .i64 (n % 86400000000000)]) ∧ w = w' := by
  by_cases h : 0 ≤ n
  · go_enter Tryd.func20, Tryd.ntmps20
    go_wp2
    go_ret2
    exact ⟨rfl, rfl⟩
  · obtain ⟨hq, hr⟩ := tdiv_neg' (n := n) (by omega)
    have q1 : -106753 ≤ n.tdiv 86400000000000 := by omega
    have q2 : n.tdiv 86400000000000 ≤ 0 := by omega
    have r1 : -86400000000000 < n.tmod 86400000000000 := by omega
    have r2 : n.tmod 86400000000000 ≤ 0 := by omega
    have HQ := Lib.hid hq
    have HR := Lib.hid hr
    clear hq hr
    go_enter Tryd.func20, Tryd.ntmps20
    go_wp2
    all_goals
      go_ret2
      have hq := HQ.out
      have hr := HR.out
      exact ⟨ret2i (by omega) (by omega), rfl⟩
end Go.Proofs.YtkbddelacjjapaaDoor.Mom
