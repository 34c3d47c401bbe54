/-
  Contracts of package decimal: the sum of any two decimals.
-/
import Derived.Test.YtjidjcnjgjmeoaaDoorDecL
namespace Go.Proofs.YtjidjcnjgjmeoaaDoor.Dec
open Go.RowKit
set_option linter.unusedVariables false
set_option linter.unusedSimpArgs false
open Go.Proofs.YtjidjcnjgjmeoaaDoor.Dig

/-- What a call returns: a decimal and an error. -/
def retR (R : Bool × Nat × Int × Int) : Ending := .returned (.tuple #[.agg #[.bool R.1, .string (S R.2.1), .int .i64 R.2.2.1], .int .i64 R.2.2.2])
theorem ok_parts {g : Bool} {n : Nat} {x : Int} (h : okD g n x) (hn : 0 < n) : zr n = 0 ∧ (num n).length ≤ 120 := by
  rcases h with ⟨e, _⟩ | ⟨_, hz, hl, _⟩
  · omega
  · exact ⟨hz, hl⟩
theorem sum_long {n1 n2 k1 k2 : Nat} (x : Int) (p1 : 0 < n1) (p2 : 0 < n2) (z1 : zr n1 = 0) (z2 : zr n2 = 0) (l1 : (num n1).length ≤ 120) (l2 : (num n2).length ≤ 120) (hk : k1 = 0 ∨ k2 = 0) (hl : 600 < (S (n1 * 10 ^ k1 + n2 * 10 ^ k2)).size) : fits (n1 * 10 ^ k1 + n2 * 10 ^ k2) x = false := by
  rw [S_size] at hl
  obtain ⟨L, hL, hl⟩ := far_of hl
  have h1 := len_ge.1 hl
  have h3 := far_gap hL
  have q1 := num_len.1 l1
  have q2 := num_len.1 l2
  have m1 := zr_mod p1 z1
  have m2 := zr_mod p2 z2
  have h4 := fits_long (n := n1 * 10 ^ k1 + n2 * 10 ^ k2) x
  rcases Nat.eq_zero_or_pos k1 with e1 | e1
  · rcases Nat.eq_zero_or_pos k2 with e2 | e2
    · subst e1; subst e2
      rw [Nat.pow_zero, Nat.mul_one, Nat.mul_one] at *
      generalize 10 ^ L = P at *
      generalize 10 ^ 120 = Q at *
      omega
    · subst e1
      obtain ⟨m, hm⟩ := ten_pow e2 n2
      rw [Nat.pow_zero, Nat.mul_one] at *
      generalize n2 * 10 ^ k2 = T at *
      generalize 10 ^ L = P at *
      generalize 10 ^ 120 = Q at *
      exact h4 (by omega) (by omega)
  · obtain rfl : k2 = 0 := by omega
    obtain ⟨m, hm⟩ := ten_pow e1 n1
    rw [Nat.pow_zero, Nat.mul_one] at *
    generalize n1 * 10 ^ k1 = T at *
    generalize 10 ^ L = P at *
    generalize 10 ^ 120 = Q at *
    exact h4 (by omega) (by omega)
theorem addR_pos {g1 g2 : Bool} {n1 n2 : Nat} {m : Int} {k1 k2 : Nat} (p1 : 0 < n1) (p2 : 0 < n2) (hk : k1 = 0 ∨ k2 = 0) : addR g1 n1 (m + k1) g2 n2 (m + k2) = sumR g1 (n1 * 10 ^ k1) g2 (n2 * 10 ^ k2) m := by
  have hm : min (m + (k1 : Int)) (m + (k2 : Int)) = m := by omega
  unfold addR
  rw [if_neg (by omega), if_neg (by omega), hm, show (m + (k1 : Int) - m).toNat = k1 by omega, show (m + (k2 : Int) - m).toNat = k2 by omega]
theorem err_R {R : Bool × Nat × Int × Int} (h : R = (false, 0, 0, 2)) : Ending.returned (.tuple #[.agg #[.bool false, .string ⟨#[]⟩, .int .i64 0], .int .i64 2]) = retR R := by subst h; rfl
theorem nrm_R {g : Bool} {n : Nat} {x : Int} {R : Bool × Nat × Int × Int} (h : R = nrm g n x) : Ending.returned (.tuple #[.agg #[.bool (nG g n x), .string (S (nN n x)), .int .i64 (nX n x)], .int .i64 (nE n x)]) = retR R := by subst h; rfl
theorem dadd_core (g1 : Bool) (n1 : Nat) (g2 : Bool) (n2 : Nat) (m : Int) (k1 k2 : Nat) (w : World) (h1 : okD g1 n1 (m + k1)) (h2 : okD g2 n2 (m + k2)) (hk : k1 = 0 ∨ k2 = 0) (b1 : k1 ≤ 1000) (b2 : k2 ≤ 1000) :
    Calls Tryd.prog 13 #[.agg #[.bool g1, .string (S n1), .int .i64 (m + (k1 : Int))], .agg #[.bool g2, .string (S n2), .int .i64 (m + (k2 : Int))]] w fun e w' => e = retR (addR g1 n1 (m + k1) g2 n2 (m + k2)) ∧ Below w.heap.size w w' := by
  rcases Nat.eq_zero_or_pos n1 with e1 | p1
  · have hR : addR g1 n1 (m + k1) g2 n2 (m + k2) = (g2, n2, m + k2, 0) := by unfold addR; rw [if_pos e1]
    rw [hR]
    exact dadd_z1 g1 n1 g2 n2 m k1 k2 w h1 h2 hk e1
  rcases Nat.eq_zero_or_pos n2 with e2 | p2
  · have hR : addR g1 n1 (m + k1) g2 n2 (m + k2) = (g1, n1, m + k1, 0) := by unfold addR; rw [if_neg (by omega), if_pos e2]
    rw [hR]
    exact dadd_z2 g1 n1 g2 n2 m k1 k2 w h1 h2 hk e2 p1
  rw [addR_pos p1 p2 hk]
  obtain ⟨z1, l1⟩ := ok_parts h1 p1
  obtain ⟨z2, l2⟩ := ok_parts h2 p2
  by_cases f1 : 600 < (S n1).size + k1
  · have hk1 : 0 < k1 := by rw [S_size] at f1; omega
    obtain rfl : k2 = 0 := by omega
    refine (dadd_far1 g1 n1 g2 n2 m k1 0 w h1 h2 hk p1 p2 f1 b1).mono fun e w' ⟨he, hb⟩ => ⟨he.trans (err_R ?_), hb⟩
    rw [S_size] at f1
    have hlt := far_lt (b := n2) p1 l2 f1
    rw [Nat.pow_zero, Nat.mul_one]
    unfold sumR
    split
    · exact nrm_no (by omega) (far_sum m p1 p2 z2 f1 hk1)
    · rw [if_neg (by omega)]
      exact nrm_no (by omega) (far_less m p1 p2 z2 l2 f1 hk1)
  by_cases f2 : 600 < (S n2).size + k2
  · have hk2 : 0 < k2 := by rw [S_size] at f2; omega
    obtain rfl : k1 = 0 := by omega
    refine (dadd_far2 g1 n1 g2 n2 m 0 k2 w h1 h2 hk p1 p2 (by omega) f2 b2).mono fun e w' ⟨he, hb⟩ => ⟨he.trans (err_R ?_), hb⟩
    rw [S_size] at f2
    have hlt := far_lt (b := n1) p2 l1 f2
    rw [Nat.pow_zero, Nat.mul_one]
    unfold sumR
    split
    · rw [Nat.add_comm]
      exact nrm_no (by omega) (far_sum m p2 p1 z1 f2 hk2)
    · try rw [if_pos hlt]
      exact nrm_no (by omega) (far_less m p2 p1 z1 l1 f2 hk2)
  by_cases hg : g1 = g2
  · subst hg
    by_cases hl : 600 < (S (n1 * 10 ^ k1 + n2 * 10 ^ k2)).size
    · refine (dadd_long g1 n1 n2 m k1 k2 w h1 h2 hk p1 p2 (by omega) (by omega) hl).mono fun e w' ⟨he, hb⟩ => ⟨he.trans (err_R ?_), hb⟩
      unfold sumR
      rw [if_pos rfl]
      exact nrm_no (by have := Nat.mul_pos p1 (pow_pos' k1); omega) (sum_long m p1 p2 z1 z2 l1 l2 hk hl)
    · refine (dadd_same g1 n1 n2 m k1 k2 w h1 h2 hk p1 p2 (by omega) (by omega) (by omega)).mono fun e w' ⟨he, hb⟩ => ⟨he.trans (nrm_R ?_), hb⟩
      unfold sumR
      rw [if_pos rfl]
  · have hg' : g1 = !g2 := by cases g1 <;> cases g2 <;> simp_all
    by_cases hl : n1 * 10 ^ k1 < n2 * 10 ^ k2
    · refine (dadd_less g1 n1 g2 n2 m k1 k2 w h1 h2 hk p1 p2 (by omega) (by omega) hg' hl).mono fun e w' ⟨he, hb⟩ => ⟨he.trans (nrm_R ?_), hb⟩
      unfold sumR
      rw [if_neg hg, if_pos hl]
    · refine (dadd_more g1 n1 g2 n2 m k1 k2 w h1 h2 hk p1 p2 (by omega) (by omega) hg' (by omega)).mono fun e w' ⟨he, hb⟩ => ⟨he.trans (nrm_R ?_), hb⟩
      unfold sumR
      rw [if_neg hg, if_neg hl]
theorem dadd_any (g1 : Bool) (n1 : Nat) (x1 : Int) (g2 : Bool) (n2 : Nat) (x2 : Int) (w : World) (h1 : okD g1 n1 x1) (h2 : okD g2 n2 x2) :
    Calls Tryd.prog 13 #[.agg #[.bool g1, .string (S n1), .int .i64 x1], .agg #[.bool g2, .string (S n2), .int .i64 x2]] w fun e w' => e = retR (addR g1 n1 x1 g2 n2 x2) ∧ Below w.heap.size w w' := by
  obtain ⟨_, a1, a2⟩ := ok_size h1
  obtain ⟨_, a3, a4⟩ := ok_size h2
  obtain ⟨m, k1, k2, rfl, rfl, hk, b1, b2⟩ : ∃ (m : Int) (k1 k2 : Nat), x1 = m + k1 ∧ x2 = m + k2 ∧ (k1 = 0 ∨ k2 = 0) ∧ k1 ≤ 1000 ∧ k2 ≤ 1000 := by
    by_cases h : x1 ≤ x2
    · exact ⟨x1, 0, (x2 - x1).toNat, by omega, by omega, .inl rfl, by omega, by omega⟩
    · exact ⟨x2, (x1 - x2).toNat, 0, by omega, by omega, .inr rfl, by omega, by omega⟩
  exact dadd_core g1 n1 g2 n2 m k1 k2 w h1 h2 hk b1 b2
end Go.Proofs.YtjidjcnjgjmeoaaDoor.Dec
