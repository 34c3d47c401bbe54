/-
  Package moment, plain: the order of times is that of one number.
-/
import Derived.Test.YtkbddelacjjapaaDoorMomQ
namespace Go.Proofs.YtkbddelacjjapaaDoor.Mom
open Go.RowKit
set_option linter.unusedVariables false
set_option linter.unusedSimpArgs false
theorem icmp_lex {M x1 y1 x2 y2 : Int} (hM : 0 < M) (h1 : 0 ≤ y1 ∧ y1 < M) (h2 : 0 ≤ y2 ∧ y2 < M) : icmp (x1 * M + y1) (x2 * M + y2) = if icmp x1 x2 = 0 then icmp y1 y2 else icmp x1 x2 := by
  rcases Int.lt_trichotomy x1 x2 with h | h | h
  · have h3 : (x1 + 1) * M ≤ x2 * M := Int.mul_le_mul_of_nonneg_right (by omega) (by omega)
    rw [Int.add_mul] at h3
    have e1 : icmp x1 x2 = -1 := by unfold icmp; rw [if_pos h]
    have e2 : icmp (x1 * M + y1) (x2 * M + y2) = -1 := by unfold icmp; rw [if_pos (by omega)]
    rw [e1, e2]; rfl
  · subst h
    rw [if_pos (icmp_refl x1)]
    unfold icmp
    by_cases ha : y1 < y2
    · rw [if_pos ha, if_pos (by omega)]
    · rw [if_neg ha, if_neg (by omega)]
      by_cases hb : y2 < y1
      · rw [if_pos hb, if_pos (by omega)]
      · rw [if_neg hb, if_neg (by omega)]
  · have h3 : (x2 + 1) * M ≤ x1 * M := Int.mul_le_mul_of_nonneg_right (by omega) (by omega)
    rw [Int.add_mul] at h3
    have e1 : icmp x1 x2 = 1 := by unfold icmp; rw [if_neg (by omega), if_pos h]
    have e2 : icmp (x1 * M + y1) (x2 * M + y2) = 1 := by unfold icmp; rw [if_neg (by omega), if_pos (by omega)]
    rw [e1, e2]; rfl
theorem icmp_add (a b c : Int) : icmp (a + c) (b + c) = icmp a b := by
  unfold icmp
  by_cases ha : a < b
  · rw [if_pos ha, if_pos (by omega)]
  · rw [if_neg ha, if_neg (by omega)]
    by_cases hb : b < a
    · rw [if_pos hb, if_pos (by omega)]
    · rw [if_neg hb, if_neg (by omega)]
/-- One number for a time. -/
def tE (k d n o : Int) : Int := ((k * 100000000 + (uD d n o + 20000000)) * 86400000000000 + uN n o) * 4000 + (o + 1440)
theorem tC_E {k1 d1 n1 o1 k2 d2 n2 o2 : Int} (h1 : nP d1 n1 o1) (h2 : nP d2 n2 o2) : tC k1 d1 n1 o1 k2 d2 n2 o2 = icmp (tE k1 d1 n1 o1) (tE k2 d2 n2 o2) := by
  unfold nP at h1 h2
  unfold tE
  rw [icmp_lex (by decide) (by omega) (by omega), icmp_add o1 o2 1440, icmp_lex (by decide) (by unfold uN; omega) (by unfold uN; omega), icmp_lex (by decide) (by unfold uD; omega) (by unfold uD; omega), icmp_add]
  unfold tC mC
  generalize icmp k1 k2 = a
  generalize icmp (uD d1 n1 o1) (uD d2 n2 o2) = b
  generalize icmp (uN n1 o1) (uN n2 o2) = c
  generalize icmp o1 o2 = e
  by_cases ha : a = 0 <;> by_cases hb : b = 0 <;> by_cases hc : c = 0 <;> simp [ha, hb, hc]
theorem lin_inj {M x1 y1 x2 y2 : Int} (h1 : 0 ≤ y1 ∧ y1 < M) (h2 : 0 ≤ y2 ∧ y2 < M) (h : x1 * M + y1 = x2 * M + y2) : x1 = x2 ∧ y1 = y2 := by
  rcases Int.lt_trichotomy x1 x2 with e | e | e
  · have h3 : (x1 + 1) * M ≤ x2 * M := Int.mul_le_mul_of_nonneg_right (by omega) (by omega)
    rw [Int.add_mul] at h3
    omega
  · subst e; exact ⟨rfl, by omega⟩
  · have h3 : (x2 + 1) * M ≤ x1 * M := Int.mul_le_mul_of_nonneg_right (by omega) (by omega)
    rw [Int.add_mul] at h3
    omega
theorem tE_inj {k1 d1 n1 o1 k2 d2 n2 o2 : Int} (h1 : vP k1 d1 n1 o1) (h2 : vP k2 d2 n2 o2) (h : tE k1 d1 n1 o1 = tE k2 d2 n2 o2) : k1 = k2 ∧ d1 = d2 ∧ n1 = n2 ∧ o1 = o2 := by
  unfold vP at h1 h2
  unfold tE at h
  obtain ⟨i1, e1⟩ := lin_inj (by omega) (by omega) h
  obtain ⟨i2, e2⟩ := lin_inj (by unfold uN; omega) (by unfold uN; omega) i1
  obtain ⟨i3, e3⟩ := lin_inj (by unfold uD; omega) (by unfold uD; omega) i2
  have e4 : o1 = o2 := by omega
  subst e4
  unfold uN at e2
  unfold uD at e3
  refine ⟨i3, ?_, ?_, rfl⟩ <;> omega
theorem icmp_0 (a b : Int) : icmp a b = 0 ↔ a = b := by
  unfold icmp
  constructor
  · intro h; split at h
    · omega
    · split at h <;> omega
  · rintro rfl; simp
theorem tC_zero {k1 d1 n1 o1 k2 d2 n2 o2 : Int} (h1 : vP k1 d1 n1 o1) (h2 : vP k2 d2 n2 o2) : tC k1 d1 n1 o1 k2 d2 n2 o2 = 0 ↔ k1 = k2 ∧ d1 = d2 ∧ n1 = n2 ∧ o1 = o2 := by
  rw [tC_E (nP_of h1) (nP_of h2), icmp_0]
  exact ⟨tE_inj h1 h2, fun ⟨e1, e2, e3, e4⟩ => by rw [e1, e2, e3, e4]⟩
theorem tC_laws {k1 d1 n1 o1 k2 d2 n2 o2 k3 d3 n3 o3 : Int} (h1 : nP d1 n1 o1) (h2 : nP d2 n2 o2) (h3 : nP d3 n3 o3) : tC k1 d1 n1 o1 k2 d2 n2 o2 = - tC k2 d2 n2 o2 k1 d1 n1 o1 ∧ (-1 ≤ tC k1 d1 n1 o1 k2 d2 n2 o2 ∧ tC k1 d1 n1 o1 k2 d2 n2 o2 ≤ 1) ∧ (tC k1 d1 n1 o1 k2 d2 n2 o2 ≤ 0 → tC k2 d2 n2 o2 k3 d3 n3 o3 ≤ 0 → tC k1 d1 n1 o1 k3 d3 n3 o3 ≤ 0 ∧ (tC k1 d1 n1 o1 k3 d3 n3 o3 = 0 → tC k1 d1 n1 o1 k2 d2 n2 o2 = 0 ∧ tC k2 d2 n2 o2 k3 d3 n3 o3 = 0)) := by
  rw [tC_E h1 h2, tC_E h2 h1, tC_E h2 h3, tC_E h1 h3]
  generalize tE k1 d1 n1 o1 = a
  generalize tE k2 d2 n2 o2 = b
  generalize tE k3 d3 n3 o3 = c
  unfold icmp
  refine ⟨?_, ?_, ?_⟩
  · split <;> split <;> (try split) <;> omega
  · split <;> (try split) <;> omega
  · intro hx hy
    have hab : a ≤ b := by
      rcases (by omega : b < a ∨ a ≤ b) with h | h
      · rw [if_neg (by omega), if_pos h] at hx; omega
      · omega
    have hbc : b ≤ c := by
      rcases (by omega : c < b ∨ b ≤ c) with h | h
      · rw [if_neg (by omega), if_pos h] at hy; omega
      · omega
    constructor
    · split
      · omega
      · split <;> omega
    · intro hz
      have : ¬ a < c := by intro h; rw [if_pos h] at hz; omega
      rw [if_neg (by omega), if_neg (by omega), if_neg (by omega), if_neg (by omega)]
      exact ⟨rfl, rfl⟩
/-- The same instant with another offset: the moment stays. -/
theorem zone_moment {k d n o off a b c g : Int} (h : zR k d n o off = (a, b, c, g, 0)) : vP k d n o ∧ k = 4 ∧ a = 4 ∧ nP b c g ∧ uD b c g = uD d n o ∧ uN c g = uN n o := by
  unfold zR at h
  by_cases hv : vP k d n o
  · rw [if_pos hv] at h
    by_cases hk : k = 4
    · rw [if_pos hk] at h
      by_cases ho : -1439 ≤ off ∧ off ≤ 1439
      · rw [if_pos ho] at h
        unfold dR at h
        split at h
        · simp at h
        · rename_i hd
          simp only [Prod.mk.injEq] at h
          obtain ⟨rfl, rfl, rfl, rfl, -⟩ := h
          unfold vP at hv
          refine ⟨by unfold vP; exact hv, hk, rfl, ?_, ?_, ?_⟩
          · unfold nP; omega
          · unfold uD; omega
          · unfold uN; omega
      · rw [if_neg ho] at h; simp at h
    · rw [if_neg hk] at h; simp at h
  · rw [if_neg hv] at h; simp at h
end Go.Proofs.YtkbddelacjjapaaDoor.Mom
