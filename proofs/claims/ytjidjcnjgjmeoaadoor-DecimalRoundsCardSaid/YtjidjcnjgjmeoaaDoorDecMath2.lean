/-
  Plain facts on sums of decimals.
-/
import Derived.Test.YtjidjcnjgjmeoaaDoorDecMath
namespace Go.Proofs.YtjidjcnjgjmeoaaDoor.Dec
open Go.Proofs.YtjidjcnjgjmeoaaDoor.Dig

theorem pow_le {a b : Nat} (h : a ≤ b) : 10 ^ a ≤ 10 ^ b := Nat.pow_le_pow_right (by omega) h
theorem len_ge {n k : Nat} : k < (num n).length ↔ 10 ^ k ≤ n := by
  have := num_len (n := n) (k := k)
  omega
theorem fits_long {n : Nat} (x : Int) (hz : n % 10 ≠ 0) (hl : 10 ^ 120 ≤ n) : fits n x = false := by
  unfold fits
  rw [decide_eq_false_iff_not, cut_id (zr_no hz)]
  have := len_ge.2 hl
  omega
theorem ten_pow {k : Nat} (hk : 0 < k) (n : Nat) : ∃ m, n * 10 ^ k = 10 * m := by
  obtain ⟨j, rfl⟩ : ∃ j, k = j + 1 := ⟨k - 1, by omega⟩
  exact ⟨n * 10 ^ j, by rw [Nat.pow_succ, ← Nat.mul_assoc, Nat.mul_comm _ 10]⟩
theorem len_pow {n : Nat} (hn : 0 < n) (k : Nat) : (num (n * 10 ^ k)).length = (num n).length + k := by
  rw [num_pow hn, List.length_append, List.length_replicate]
theorem far_ge {n k L : Nat} (hn : 0 < n) (h : L < (num n).length + k) : 10 ^ L ≤ n * 10 ^ k := by
  rw [← len_ge, len_pow hn]; exact h
theorem far_gap {L : Nat} (h : 121 ≤ L) : 10 ^ 120 + 10 ^ 120 ≤ 10 ^ L := by
  have h1 := pow_le h
  have h2 : 10 ^ 121 = 10 ^ 120 * 10 := Nat.pow_succ 10 120
  generalize 10 ^ L = P at *
  generalize 10 ^ 121 = R at *
  generalize 10 ^ 120 = Q at *
  omega
theorem far_of {c : Nat} (h : 600 < c) : ∃ L, 121 ≤ L ∧ L < c := ⟨600, by omega, h⟩
theorem far_sum {a b k : Nat} (x : Int) (ha : 0 < a) (hb : 0 < b) (hz : zr b = 0) (hk : 600 < (num a).length + k) (hk0 : 0 < k) : fits (a * 10 ^ k + b) x = false := by
  obtain ⟨L, hL, hk⟩ := far_of hk
  obtain ⟨m, hm⟩ := ten_pow hk0 a
  have h1 := far_ge ha hk
  have h2 := zr_mod hb hz
  have h3 := far_gap hL
  have h4 := fits_long (n := a * 10 ^ k + b) x
  generalize 10 ^ L = P at *
  generalize 10 ^ 120 = Q at *
  rw [hm] at *
  exact h4 (by omega) (by omega)
theorem far_less {a b k : Nat} (x : Int) (ha : 0 < a) (hb : 0 < b) (hz : zr b = 0) (hl : (num b).length ≤ 120) (hk : 600 < (num a).length + k) (hk0 : 0 < k) : fits (a * 10 ^ k - b) x = false := by
  obtain ⟨L, hL, hk⟩ := far_of hk
  obtain ⟨m, hm⟩ := ten_pow hk0 a
  have h1 := far_ge ha hk
  have h2 := zr_mod hb hz
  have h3 := far_gap hL
  have h5 := num_len.1 hl
  have h4 := fits_long (n := a * 10 ^ k - b) x
  generalize 10 ^ L = P at *
  generalize 10 ^ 120 = Q at *
  rw [hm] at *
  exact h4 (by omega) (by omega)
theorem far_lt {a b k : Nat} (ha : 0 < a) (hl : (num b).length ≤ 120) (hk : 600 < (num a).length + k) : b < a * 10 ^ k := by
  obtain ⟨L, hL, hk⟩ := far_of hk
  have h1 := far_ge ha hk
  have h3 := far_gap hL
  have h5 := num_len.1 hl
  generalize 10 ^ L = P at *
  generalize 10 ^ 120 = Q at *
  omega
/-- The sum of two numbers with signs, with one exponent. -/
def sumR (g1 : Bool) (a : Nat) (g2 : Bool) (b : Nat) (x : Int) : Bool × Nat × Int × Int :=
  if g1 = g2 then nrm g1 (a + b) x else if a < b then nrm g2 (b - a) x else nrm g1 (a - b) x
/-- The sum of two decimals. -/
def addR (g1 : Bool) (n1 : Nat) (x1 : Int) (g2 : Bool) (n2 : Nat) (x2 : Int) : Bool × Nat × Int × Int :=
  if n1 = 0 then (g2, n2, x2, 0) else if n2 = 0 then (g1, n1, x1, 0) else sumR g1 (n1 * 10 ^ (x1 - min x1 x2).toNat) g2 (n2 * 10 ^ (x2 - min x1 x2).toNat) (min x1 x2)
end Go.Proofs.YtjidjcnjgjmeoaaDoor.Dec
