/-
  Contracts of the reference of digits: products.
-/
import Derived.Test.YtjidjcnjgjmeoaaDoorDigF
namespace Go.Proofs.YtjidjcnjgjmeoaaDoor.Dig
open Go.RowKit
set_option linter.unusedVariables false
set_option linter.unusedSimpArgs false

/-- A row of digits and a carry at place p that stand for T together. -/
def Tim (T p up n : Nat) (l : List Nat) : Prop := l.length = n ∧ (∀ z ∈ l, z ≤ 9) ∧ lev l + 10 ^ p * up = T
theorem Tim.start (n p : Nat) : Tim 0 p 0 n (List.replicate n 0) := ⟨by simp, fun z hz => by rw [(List.mem_replicate.1 hz).2]; omega, by simp [lev_replicate]⟩
theorem Tim.get {T p up n : Nat} {l : List Nat} (h : Tim T p up n l) {q : Nat} (hq : q < n) : l.getD q 0 ≤ 9 := by
  rw [List.getD_eq_getElem?_getD, List.getElem?_eq_getElem (by rw [h.1]; exact hq)]
  exact h.2.1 _ (List.getElem_mem _)
theorem Tim.move {T p q n : Nat} {l : List Nat} (h : Tim T p 0 n l) : Tim T q 0 n l := ⟨h.1, h.2.1, by have := h.2.2; simpa using this⟩
theorem Tim.step {T T' p up n d v : Nat} {l : List Nat} (h : Tim T p up n l) (hp : p < n) (hv : v = l.getD p 0 + d + up) (hT : T' = T + 10 ^ p * d) : Tim T' (p + 1) (v / 10) n (l.set p (v % 10)) := by
  obtain ⟨h1, h2, h3⟩ := h
  have hp' : p < l.length := by omega
  have hg : l.getD p 0 = l[p] := by rw [List.getD_eq_getElem?_getD, List.getElem?_eq_getElem hp']; rfl
  refine ⟨by simpa using h1, fun z hz => ?_, ?_⟩
  · rcases List.mem_or_eq_of_mem_set hz with h | h
    · exact h2 z h
    · omega
  · have e := lev_set (x := v % 10) hp'
    rw [hg] at hv
    have e2 : 10 ^ p * (v % 10) + 10 ^ (p + 1) * (v / 10) = 10 ^ p * l[p] + (10 ^ p * d + 10 ^ p * up) := by
      rw [Nat.pow_succ, Nat.mul_assoc, ← Nat.mul_add, ← Nat.mul_add, ← Nat.mul_add]; congr 1; omega
    omega
theorem Tim.done {T p up n : Nat} {l : List Nat} (h : Tim T p up n l) (hT : T < 10 ^ p) : up = 0 := by
  have := h.2.2
  rcases Nat.eq_zero_or_pos up with h5 | h5
  · exact h5
  · have := Nat.mul_le_mul_left (10 ^ p) h5; omega

theorem mul_size' {x y m : Nat} (hx : (S x).size ≤ m) (hy : (S y).size ≤ m) : (S (x * y)).size ≤ m + m := by
  have h1 := Nat.lt_of_lt_of_le (size_pow (n := x)) (Nat.pow_le_pow_right (show 0 < 10 by omega) hx)
  have h2 := Nat.lt_of_lt_of_le (size_pow (n := y)) (Nat.pow_le_pow_right (show 0 < 10 by omega) hy)
  rw [S_size, num_len]
  exact mul_lt h1 h2
theorem mul_size {x y : Nat} (hx : (S x).size ≤ 600) (hy : (S y).size ≤ 600) : (S (x * y)).size ≤ 1200 := mul_size' hx hy
end Go.Proofs.YtjidjcnjgjmeoaaDoor.Dig
