/-
  The reference of moment: shifted times.
-/
import Derived.Test.YtkbddelacjjapaaDoorMomD
namespace Go.Proofs.YtkbddelacjjapaaDoor.Mom
open Go.RowKit
set_option linter.unusedVariables false
set_option linter.unusedSimpArgs false

theorem sR_6 {k d n o days nanos : Int} (hv : vP k d n o) (h : (k = 1 ∧ nanos ≠ 0) ∨ (k = 2 ∧ days ≠ 0)) : sR k d n o days nanos = (0, 0, 0, 0, 6) := by unfold sR; rw [if_pos hv, if_pos h]
theorem sR_2 {k d n o days nanos : Int} (hv : vP k d n o) (hna : -9223372036854775808 ≤ nanos ∧ nanos ≤ 9223372036854775807) (h0 : ¬ ((k = 1 ∧ nanos ≠ 0) ∨ (k = 2 ∧ days ≠ 0))) (h : days < -7304116 ∨ 7304116 < days ∨ sD d n days nanos < 0 ∨ 3652058 < sD d n days nanos ∨ (k = 2 ∧ sD d n days nanos ≠ 0)) : sR k d n o days nanos = (0, 0, 0, 0, 2) := by
  have hd := nP_of hv
  have hv' := hv
  unfold vP at hv'
  unfold nP at hd
  unfold sR
  rw [if_pos hv, if_neg h0]
  by_cases h1 : days < -14608232 ∨ 14608232 < days
  · rw [if_pos h1]
  · rw [if_neg h1]
    by_cases h2 : k = 2 ∧ sD d n days nanos ≠ 0
    · rw [if_pos h2]
    · rw [if_neg h2]
      unfold dR
      rw [if_pos]
      unfold sD at *
      omega
theorem sR_0 {k d n o days nanos : Int} (hv : vP k d n o) (h0 : ¬ ((k = 1 ∧ nanos ≠ 0) ∨ (k = 2 ∧ days ≠ 0))) (h1 : -7304116 ≤ days ∧ days ≤ 7304116) (h2 : 0 ≤ sD d n days nanos ∧ sD d n days nanos ≤ 3652058) (h3 : ¬ (k = 2 ∧ sD d n days nanos ≠ 0)) : sR k d n o days nanos = (k, sD d n days nanos, sN n nanos, o, 0) := by
  unfold sR
  rw [if_pos hv, if_neg h0, if_neg (by omega), if_neg h3]
  unfold dR
  rw [if_neg (by omega)]
end Go.Proofs.YtkbddelacjjapaaDoor.Mom
