/-
  Package moment, plain: shifting by what lies between; shifting back.
-/
import Derived.Test.YtkbddelacjjapaaDoorMomP
namespace Go.Proofs.YtkbddelacjjapaaDoor.Mom
open Go.RowKit
set_option linter.unusedVariables false
set_option linter.unusedSimpArgs false

theorem icmp_refl (a : Int) : icmp a a = 0 := by unfold icmp; simp
theorem mv_lin {d1 n1 o1 d2 n2 o2 q1 u1 q2 u2 q3 N q4 n' q5 r P : Int} (hP : P = 86400000000000) (e1 : n1 - o1 = P * q1 + u1) (e2 : n2 - o2 = P * q2 + u2) (e3 : u2 - u1 = P * q3 + N) (e4 : n1 + N = P * q4 + n') (e5 : n' - o1 = P * q5 + r) (h2 : 0 ≤ u2 ∧ u2 < P) (hr : 0 ≤ r ∧ r < P) : r = u2 ∧ d1 + (d2 + q2 - (d1 + q1) + q3) + q4 + q5 = d2 + q2 := by
  subst hP
  constructor <;> omega
theorem mv_between {k d1 n1 o1 d2 n2 o2 : Int} (h1 : vP k d1 n1 o1) (h2 : vP k d2 n2 o2) (hk : k ≠ 2) (D N : Int) (hD : D = uD d2 n2 o2 - uD d1 n1 o1 + (uN n2 o2 - uN n1 o1) / 86400000000000) (hN : N = (uN n2 o2 - uN n1 o1) % 86400000000000) : (-9223372036854775808 ≤ D ∧ D ≤ 9223372036854775807) ∧ (0 ≤ N ∧ N ≤ 86399999999999) ∧ (sR k d1 n1 o1 D N = (0, 0, 0, 0, 2) ∨ ∃ d' n', sR k d1 n1 o1 D N = (k, d', n', o1, 0) ∧ nP d' n' o1 ∧ eqT k d' n' o1 k d2 n2 o2 = true) := by
  have hlin := @mv_lin d1 n1 (o1 * 60000000000) d2 n2 (o2 * 60000000000) ((n1 - o1 * 60000000000) / 86400000000000) (uN n1 o1) ((n2 - o2 * 60000000000) / 86400000000000) (uN n2 o2) ((uN n2 o2 - uN n1 o1) / 86400000000000) N ((n1 + N) / 86400000000000) (sN n1 N) ((sN n1 N - o1 * 60000000000) / 86400000000000) (uN (sN n1 N) o1) 86400000000000 rfl (by unfold uN; omega) (by unfold uN; omega) (by omega) (by unfold sN; omega) (by unfold uN; omega) (by unfold uN; omega) (by unfold uN; omega)
  have hn : 0 ≤ N ∧ N ≤ 86399999999999 := by omega
  have hd : -7304116 ≤ D ∧ D ≤ 7304116 := by
    unfold vP at h1 h2
    unfold uD uN at hD
    omega
  have h0 : ¬ ((k = 1 ∧ N ≠ 0) ∨ (k = 2 ∧ D ≠ 0)) := by
    rintro (⟨rfl, h⟩ | ⟨h, -⟩)
    · apply h
      unfold vP at h1 h2
      have : n1 = 0 := by omega
      have : n2 = 0 := by omega
      have : o1 = 0 := by omega
      have : o2 = 0 := by omega
      subst n1 n2 o1 o2
      rw [hN]; simp
    · exact hk h
  refine ⟨by omega, hn, ?_⟩
  unfold sR
  rw [if_pos h1, if_neg h0, if_neg (by omega), if_neg (by rintro ⟨h, -⟩; exact hk h)]
  unfold dR
  by_cases hr : sD d1 n1 D N < 0 ∨ 3652058 < sD d1 n1 D N
  · exact Or.inl (by rw [if_pos hr])
  · refine Or.inr ⟨sD d1 n1 D N, sN n1 N, by rw [if_neg hr], ?_, ?_⟩
    · unfold vP at h1
      unfold nP sN
      omega
    · have e1 : uD (sD d1 n1 D N) (sN n1 N) o1 = uD d2 n2 o2 := by
        have := hlin.2
        unfold uD sD at *
        omega
      unfold eqT mC
      rw [e1, hlin.1, icmp_refl, icmp_refl]
      simp
theorem mv_back (k d n o days nanos : Int) : (∃ e, e ≠ 0 ∧ sR k d n o days nanos = (0, 0, 0, 0, e)) ∨ (∃ a b c g, sR k d n o days nanos = (a, b, c, g, 0) ∧ sR a b c g (-days) (-nanos) = (k, d, n, o, 0)) := by
  by_cases hv : vP k d n o
  · unfold sR
    rw [if_pos hv]
    by_cases h0 : (k = 1 ∧ nanos ≠ 0) ∨ (k = 2 ∧ days ≠ 0)
    · exact Or.inl ⟨6, by decide, by rw [if_pos h0]⟩
    rw [if_neg h0]
    by_cases h1 : days < -14608232 ∨ 14608232 < days
    · exact Or.inl ⟨2, by decide, by rw [if_pos h1]⟩
    rw [if_neg h1]
    by_cases h2 : k = 2 ∧ sD d n days nanos ≠ 0
    · exact Or.inl ⟨2, by decide, by rw [if_pos h2]⟩
    rw [if_neg h2]
    unfold dR
    by_cases h3 : sD d n days nanos < 0 ∨ 3652058 < sD d n days nanos
    · exact Or.inl ⟨2, by decide, by rw [if_pos h3]⟩
    rw [if_neg h3]
    refine Or.inr ⟨_, _, _, _, rfl, ?_⟩
    have eN : sN (sN n nanos) (-nanos) = n := by
      unfold vP at hv
      unfold sN
      omega
    have eD : sD (sD d n days nanos) (sN n nanos) (-days) (-nanos) = d := by
      unfold vP at hv
      unfold sD sN
      omega
    have hv' : vP k (sD d n days nanos) (sN n nanos) o := by
      have : 0 ≤ sN n nanos ∧ sN n nanos ≤ 86399999999999 := by unfold sN; omega
      have : k = 1 → sN n nanos = 0 := by
        intro hk
        unfold vP at hv
        have : n = 0 := by omega
        have : nanos = 0 := by omega
        subst n nanos
        rfl
      unfold vP at *
      omega
    rw [if_pos hv', if_neg (by omega), if_neg (by omega), if_neg (by rw [eD]; unfold vP at hv; omega), eD, eN, if_neg (by unfold vP at hv; omega)]
  · exact Or.inl ⟨1, by decide, by unfold sR; rw [if_neg hv]⟩
end Go.Proofs.YtkbddelacjjapaaDoor.Mom
