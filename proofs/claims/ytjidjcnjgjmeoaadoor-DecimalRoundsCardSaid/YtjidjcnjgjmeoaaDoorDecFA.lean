/-
  Package decimal, plain: a quotient, rounded.
-/
import Derived.Test.YtjidjcnjgjmeoaaDoorDecM
namespace Go.Proofs.YtjidjcnjgjmeoaaDoor.Dec
open Go.RowKit
set_option linter.unusedVariables false
set_option linter.unusedSimpArgs false
open Go.Proofs.YtjidjcnjgjmeoaaDoor.Dig

theorem dvd_down : ∀ (k b a : Nat), 0 < b → b < 2 ^ (k + 1) → b ∣ a * 10 ^ (k + 1) → b ∣ a * 10 ^ k := by
  intro k
  induction k with
  | zero =>
    intro b a h0 hb _
    obtain rfl : b = 1 := by omega
    exact Nat.one_dvd _
  | succ k ih =>
    intro b a h0 hb hd
    have hp : 2 ^ (k + 1 + 1) = 2 * 2 ^ (k + 1) := by rw [Nat.pow_succ, Nat.mul_comm]
    by_cases h2 : b % 2 = 0
    · obtain ⟨c, rfl⟩ := Nat.dvd_of_mod_eq_zero h2
      have e : a * 10 ^ (k + 1 + 1) = 2 * (5 * a * 10 ^ (k + 1)) := by
        rw [Nat.pow_succ 10 (k + 1)]; generalize 10 ^ (k + 1) = t; rw [Nat.mul_comm t 10, show (10 : Nat) = 2 * 5 by rfl]
        simp only [Nat.mul_assoc, Nat.mul_comm, Nat.mul_left_comm]
      rw [e] at hd
      have h := ih c (5 * a) (by omega) (by omega) (Nat.dvd_of_mul_dvd_mul_left (by omega) hd)
      have e2 : a * 10 ^ (k + 1) = 2 * (5 * a * 10 ^ k) := by
        rw [Nat.pow_succ 10 k]; generalize 10 ^ k = t; rw [Nat.mul_comm t 10, show (10 : Nat) = 2 * 5 by rfl]
        simp only [Nat.mul_assoc, Nat.mul_comm, Nat.mul_left_comm]
      rw [e2]
      exact Nat.mul_dvd_mul_left 2 h
    · by_cases h5 : b % 5 = 0
      · obtain ⟨c, rfl⟩ := Nat.dvd_of_mod_eq_zero h5
        have e : a * 10 ^ (k + 1 + 1) = 5 * (2 * a * 10 ^ (k + 1)) := by
          rw [Nat.pow_succ 10 (k + 1)]; generalize 10 ^ (k + 1) = t; rw [Nat.mul_comm t 10, show (10 : Nat) = 2 * 5 by rfl]
          simp only [Nat.mul_assoc, Nat.mul_comm, Nat.mul_left_comm]
        rw [e] at hd
        have h := ih c (2 * a) (by omega) (by omega) (Nat.dvd_of_mul_dvd_mul_left (by omega) hd)
        have e2 : a * 10 ^ (k + 1) = 5 * (2 * a * 10 ^ k) := by
          rw [Nat.pow_succ 10 k]; generalize 10 ^ k = t; rw [Nat.mul_comm t 10, show (10 : Nat) = 2 * 5 by rfl]
          simp only [Nat.mul_assoc, Nat.mul_comm, Nat.mul_left_comm]
        rw [e2]
        exact Nat.mul_dvd_mul_left 5 h
      · have hg : Nat.gcd b 10 = 1 := by
          have key : ∀ g, g < 11 → g ∣ 10 → ¬ 2 ∣ g → ¬ 5 ∣ g → g = 1 := by decide
          have g1 := Nat.gcd_dvd_left b 10
          have g2 := Nat.gcd_dvd_right b 10
          exact key _ (Nat.lt_succ_of_le (Nat.le_of_dvd (by decide) g2)) g2 (fun h => h2 (Nat.mod_eq_zero_of_dvd (Nat.dvd_trans h g1))) (fun h => h5 (Nat.mod_eq_zero_of_dvd (Nat.dvd_trans h g1)))
        have hc : Nat.Coprime b (10 ^ (k + 1 + 1)) := Nat.Coprime.pow_right _ hg
        exact Nat.dvd_trans (Nat.Coprime.dvd_of_dvd_mul_right hc hd) (Nat.dvd_mul_right _ _)
theorem ten_two {k : Nat} (hk : 400 ≤ k) : 10 ^ 120 < 2 ^ k := by
  obtain ⟨e, he⟩ : ∃ e : Nat, e = 4 := ⟨_, rfl⟩
  have h : (10 ^ 30) ^ e < (2 ^ 100) ^ e := Nat.pow_lt_pow_left (by decide) (by omega)
  rw [← Nat.pow_mul, ← Nat.pow_mul, show 30 * e = 120 by omega] at h
  exact Nat.lt_of_lt_of_le h (Nat.pow_le_pow_right (by omega) (by omega))
theorem dvd_400 (k b a c : Nat) (hk : k = 400) (h0 : 0 < b) (hb : b < 10 ^ 120) (hd : b ∣ a * 10 ^ (k + c)) : b ∣ a * 10 ^ k := by
  induction c with
  | zero => exact hd
  | succ c ih =>
    refine ih (dvd_down (k + c) b a h0 ?_ hd)
    exact Nat.lt_trans hb (ten_two (by omega))
/-- Is a quotient q with the remainder r of a division by y rounded away from zero? -/
def upB (ng : Bool) (q r y : Nat) (m : Int) : Bool :=
  if r = 0 then false else if m = 0 then ng else if m = 1 then !ng else if m = 2 then false else if m = 3 then decide (y < r + r) || (decide (r + r = y) && decide (q % 2 = 1)) else decide (y ≤ r + r)
def upN (ng : Bool) (q r y : Nat) (m : Int) : Nat := if upB ng q r y m = true then q + 1 else q
/-- What Quo gives where it is asked well. -/
def qoR (g1 : Bool) (n1 : Nat) (x1 : Int) (g2 : Bool) (n2 : Nat) (x2 p m : Int) : Bool × Nat × Int × Int :=
  let X := n1 * 10 ^ (x1 - x2 + p).toNat
  let Y := n2 * 10 ^ (-(x1 - x2 + p)).toNat
  nrm (g1 != g2) (upN (g1 != g2) (X / Y) (X % Y) Y m) (-p)
def quR (g1 : Bool) (n1 : Nat) (x1 : Int) (g2 : Bool) (n2 : Nat) (x2 p m : Int) : Bool × Nat × Int × Int :=
  if m < 0 ∨ 4 < m ∨ p < -400 ∨ 400 < p then (false, 0, 0, 1) else if n2 = 0 then (false, 0, 0, 14) else qoR g1 n1 x1 g2 n2 x2 p m
theorem upN_zero (ng : Bool) (q y : Nat) (m : Int) : upN ng q 0 y m = q := by unfold upN upB; simp
theorem qo_exact {g1 g2 : Bool} {n1 n2 : Nat} {x1 x2 p m : Int} (k c : Nat) (hk : k = 400) (hc : x1 - x2 + p = ((k + c : Nat) : Int)) (h0 : 0 < n2) (h : n1 * 10 ^ k % n2 = 0) : qoR g1 n1 x1 g2 n2 x2 p m = nrm (g1 != g2) (n1 * 10 ^ k / n2) (x1 - x2 - 400) := by
  unfold qoR
  rw [hc, Int.toNat_natCast, show (-((k + c : Nat) : Int)).toNat = 0 by omega, Nat.pow_zero, Nat.mul_one]
  obtain ⟨d, hd⟩ := Nat.dvd_of_mod_eq_zero h
  have e : n1 * 10 ^ (k + c) = n2 * (d * 10 ^ c) := by rw [Nat.pow_add, ← Nat.mul_assoc, hd, Nat.mul_assoc]
  simp only
  rw [e, hd, Nat.mul_mod_right, upN_zero, Nat.mul_div_cancel_left _ h0, Nat.mul_div_cancel_left _ h0, nrm_pow]
  congr 1
  omega
theorem fits_val {n : Nat} {x : Int} (h0 : 0 < n) (h : fits n x = true) : ∃ c z, n = c * 10 ^ z ∧ c < 10 ^ 120 := by
  unfold fits at h
  rw [decide_eq_true_eq] at h
  exact ⟨cut n, zr n, (cut_mul n).symm, num_len.1 h.1⟩
/-- A number that is almost, and not quite, a multiple of a large power of ten is no product of a short number and a power of ten by y. -/
theorem far_fits {X Y q : Nat} {x : Int} (u v s : Nat) (hu : u = 120) (hv : v = 240) (hs : u + v < s) (hX : 10 ^ s ≤ X) (ht : 10 ^ u ∣ X) (hY0 : 0 < Y) (hY : Y < 10 ^ u) (hr : X % Y ≠ 0) (hq : q = X / Y ∨ q = X / Y + 1) : 0 < q ∧ fits q x = false := by
  have hdm := Nat.div_add_mod X Y
  have hm := Nat.mod_lt X hY0
  have hbig : 10 ^ v ≤ q := by
    have h1 : 10 ^ s < 10 ^ u * (X / Y + 1) := by
      have h2 : X < Y * (X / Y + 1) := by rw [Nat.mul_add, Nat.mul_one]; omega
      exact Nat.lt_of_le_of_lt hX (Nat.lt_of_lt_of_le h2 (Nat.mul_le_mul_right _ (Nat.le_of_lt hY)))
    have h3 : 10 ^ v ≤ X / Y := by
      refine Nat.le_of_lt_succ (Nat.lt_of_mul_lt_mul_left (a := 10 ^ u) ?_)
      refine Nat.lt_trans ?_ h1
      rw [← Nat.pow_add]
      exact Nat.pow_lt_pow_right (by omega) hs
    rcases hq with h | h
    · rw [h]; exact h3
    · rw [h]; exact Nat.le_trans h3 (Nat.le_succ _)
  have hq0 : 0 < q := Nat.lt_of_lt_of_le (pow_pos' v) hbig
  refine ⟨hq0, ?_⟩
  cases hf : fits q x with
  | false => rfl
  | true =>
    exfalso
    obtain ⟨c, z, e, hc⟩ := fits_val hq0 hf
    rw [← hu] at hc
    have hz : u ≤ z := by
      rcases Nat.lt_or_ge z u with h | h
      · exfalso
        have h4 : c * 10 ^ z < 10 ^ u * 10 ^ u := Nat.mul_lt_mul'' hc (Nat.pow_lt_pow_right (by omega) h)
        rw [← Nat.pow_add, ← e, show u + u = v by omega] at h4
        exact absurd h4 (Nat.not_lt.2 hbig)
      · exact h
    have hd : 10 ^ u ∣ q * Y := by
      rw [e, show z = u + (z - u) by omega, Nat.pow_add]
      exact ⟨c * 10 ^ (z - u) * Y, by simp only [Nat.mul_assoc, Nat.mul_comm, Nat.mul_left_comm]⟩
    generalize 10 ^ u = U at *
    rcases hq with h | h
    · have e2 : X = q * Y + X % Y := by rw [h, Nat.mul_comm]; omega
      have h5 : U ∣ X % Y := (Nat.dvd_add_right hd).1 (by rw [← e2]; exact ht)
      have := Nat.le_of_dvd (by omega) h5
      omega
    · have e2 : q * Y = X + (Y - X % Y) := by
        rw [h, Nat.add_mul, Nat.one_mul, Nat.mul_comm]; omega
      have h5 : U ∣ Y - X % Y := (Nat.dvd_add_right ht).1 (by rw [← e2]; exact hd)
      have := Nat.le_of_dvd (by omega) h5
      omega
theorem qo_inexact {g1 g2 : Bool} {n1 n2 : Nat} {x1 x2 p m : Int} (k c : Nat) (hk : k = 400) (hc : x1 - x2 + p = ((k + (80 + c) : Nat) : Int)) (h0 : 0 < n2) (hn : n2 < 10 ^ 120) (h : n1 * 10 ^ k % n2 ≠ 0) : qoR g1 n1 x1 g2 n2 x2 p m = (false, 0, 0, 2) := by
  unfold qoR
  rw [hc, Int.toNat_natCast, show (-((k + (80 + c) : Nat) : Int)).toNat = 0 by omega, Nat.pow_zero, Nat.mul_one]
  have p1 : 0 < n1 := by
    rcases Nat.eq_zero_or_pos n1 with h1 | h1
    · exact absurd (by rw [h1, Nat.zero_mul, Nat.zero_mod]) h
    · exact h1
  have hr : n1 * 10 ^ (k + (80 + c)) % n2 ≠ 0 := fun hz => h (Nat.mod_eq_zero_of_dvd (dvd_400 k n2 n1 (80 + c) hk h0 hn (Nat.dvd_of_mod_eq_zero hz)))
  obtain ⟨u, hu⟩ : ∃ u : Nat, u = 120 := ⟨_, rfl⟩
  obtain ⟨v, hv⟩ : ∃ v : Nat, v = 240 := ⟨_, rfl⟩
  obtain ⟨s, hs⟩ : ∃ s : Nat, k + (80 + c) = s := ⟨_, rfl⟩
  rw [hs] at hr ⊢
  have hX : 10 ^ s ≤ n1 * 10 ^ s := Nat.le_mul_of_pos_left _ p1
  have ht : 10 ^ u ∣ n1 * 10 ^ s := Nat.dvd_trans (Nat.pow_dvd_pow 10 (by omega)) (Nat.dvd_mul_left _ _)
  simp only
  generalize n1 * 10 ^ s = X at *
  have hup : upN (g1 != g2) (X / n2) (X % n2) n2 m = X / n2 ∨ upN (g1 != g2) (X / n2) (X % n2) n2 m = X / n2 + 1 := by
    unfold upN; split
    · exact .inr rfl
    · exact .inl rfl
  obtain ⟨a, b⟩ := far_fits (x := -p) u v s hu hv (by omega) hX ht h0 (by rw [hu]; exact hn) hr hup
  exact nrm_no a b
theorem qo_near {g1 g2 : Bool} {n1 n2 : Nat} {x1 x2 p m : Int} (c : Nat) (hc : x1 - x2 + p = (c : Int)) : qoR g1 n1 x1 g2 n2 x2 p m = nrm (g1 != g2) (upN (g1 != g2) (n1 * 10 ^ c / n2) (n1 * 10 ^ c % n2) n2 m) (-p) := by
  unfold qoR
  rw [hc, Int.toNat_natCast, show (-(c : Int)).toNat = 0 by omega, Nat.pow_zero, Nat.mul_one]
theorem qo_below {g1 g2 : Bool} {n1 n2 : Nat} {x1 x2 p m : Int} (c : Nat) (hc : x1 - x2 + p = -(c : Int)) : qoR g1 n1 x1 g2 n2 x2 p m = nrm (g1 != g2) (upN (g1 != g2) (n1 / (n2 * 10 ^ c)) (n1 % (n2 * 10 ^ c)) (n2 * 10 ^ c) m) (-p) := by
  unfold qoR
  rw [hc, show (- -(c : Int)).toNat = c by omega, show (-(c : Int)).toNat = 0 by omega, Nat.pow_zero, Nat.mul_one]
theorem up_small {ng : Bool} {r Y Z : Nat} {m : Int} (h1 : r + r < Y) (h2 : r + r < Z) : upN ng 0 r Y m = upN ng 0 r Z m := by
  have e : upB ng 0 r Y m = upB ng 0 r Z m := by
    unfold upB
    rw [decide_eq_false (show ¬ Y < r + r by omega), decide_eq_false (show ¬ Z < r + r by omega), decide_eq_false (show ¬ Y ≤ r + r by omega), decide_eq_false (show ¬ Z ≤ r + r by omega)]
    simp
  unfold upN
  rw [e]
theorem qo_deep {g1 g2 : Bool} {n1 n2 : Nat} {x1 x2 p m : Int} (s c : Nat) (hs : s = 480) (hc : x1 - x2 + p = -((s + c : Nat) : Int)) (h0 : 0 < n2) (hn : n1 < 10 ^ 120) : qoR g1 n1 x1 g2 n2 x2 p m = nrm (g1 != g2) (upN (g1 != g2) (n1 / (n2 * 10 ^ s)) (n1 % (n2 * 10 ^ s)) (n2 * 10 ^ s) m) (-p) := by
  rw [qo_below _ hc]
  have h3 : 10 ^ 120 + 10 ^ 120 ≤ 10 ^ s := Nat.le_trans (by decide) (pow_le (show 121 ≤ s by omega))
  have hA : 10 ^ s ≤ n2 * 10 ^ s := Nat.le_mul_of_pos_left _ h0
  have hB : 10 ^ s ≤ n2 * 10 ^ (s + c) := Nat.le_trans (pow_le (by omega)) (Nat.le_mul_of_pos_left _ h0)
  generalize n2 * 10 ^ s = A at *
  generalize n2 * 10 ^ (s + c) = B at *
  generalize 10 ^ s = T at *
  generalize 10 ^ 120 = U at *
  rw [Nat.div_eq_of_lt (show n1 < A by omega), Nat.div_eq_of_lt (show n1 < B by omega), Nat.mod_eq_of_lt (show n1 < A by omega), Nat.mod_eq_of_lt (show n1 < B by omega), up_small (Y := B) (Z := A) (by omega) (by omega)]
theorem half_rest {r y : Nat} (h : r < y) : cmpN r (y - r) = cmpN (r + r) y := by
  unfold cmpN
  by_cases h1 : r + r < y
  · rw [if_pos (by omega), if_pos h1]
  · rw [if_neg (by omega), if_neg h1]
    by_cases h2 : r + r = y
    · rw [if_pos (by omega), if_pos h2]
    · rw [if_neg (by omega), if_neg h2]
theorem q_next {X Y k : Nat} (hk : 1 ≤ k) (hX : X < 10 ^ k) (hY : 0 < Y) (hr : X % Y ≠ 0) : X / Y + 1 < 10 ^ k := by
  have h1 : Y ≠ 1 := fun h => hr (by rw [h]; exact Nat.mod_one _)
  have h2 : X / Y ≤ X / 2 := Nat.div_le_div_left (by omega) (by omega)
  have h3 : 10 ^ 1 ≤ 10 ^ k := pow_le hk
  generalize 10 ^ k = T at *
  omega
theorem q_fits {X Y k : Nat} (hk : 1 ≤ k) (hX : (S X).size ≤ k) (hY : 0 < Y) (hr : X % Y ≠ 0) : (S (X / Y + 1)).size ≤ k := by
  rw [S_size, num_len] at *
  exact q_next hk hX hY hr
end Go.Proofs.YtjidjcnjgjmeoaaDoor.Dec
