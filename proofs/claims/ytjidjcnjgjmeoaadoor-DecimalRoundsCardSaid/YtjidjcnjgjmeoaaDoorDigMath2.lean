/-
  Plain facts on numerals (2): rows of small numbers, products, quotients. No program.
-/
import Derived.Test.YtjidjcnjgjmeoaaDoorDigMath
namespace Go.Proofs.YtjidjcnjgjmeoaaDoor.Dig

/-- The value of a row of numbers, the lowest first. -/
def lev : List Nat → Nat
  | [] => 0
  | c :: l => c + 10 * lev l
theorem lev_append (l m : List Nat) : lev (l ++ m) = lev l + 10 ^ l.length * lev m := by
  induction l with
  | nil => simp [lev]
  | cons c l ih =>
    simp only [List.cons_append, lev, ih, List.length_cons, Nat.pow_succ]
    rw [Nat.mul_add, ← Nat.mul_assoc, Nat.mul_comm 10 (10 ^ _)]; omega
theorem lev_replicate (n : Nat) : lev (List.replicate n 0) = 0 := by
  induction n with
  | zero => rfl
  | succ n ih => simp [List.replicate_succ, lev, ih]
theorem lev_snoc (l : List Nat) (x : Nat) : lev (l ++ [x]) = lev l + 10 ^ l.length * x := by rw [lev_append]; simp [lev]
theorem lev_split {l : List Nat} {k : Nat} (hk : k < l.length) : lev l = lev (l.take k) + 10 ^ k * (l[k] + 10 * lev (l.drop (k + 1))) := by
  have e : l = l.take k ++ l[k] :: l.drop (k + 1) := by rw [← List.drop_eq_getElem_cons hk, List.take_append_drop]
  have e2 := congrArg lev e
  rw [lev_append, List.length_take, Nat.min_eq_left (by omega)] at e2
  exact e2
theorem lev_take_succ {l : List Nat} {k : Nat} (hk : k < l.length) : lev (l.take (k + 1)) = lev (l.take k) + 10 ^ k * l[k] := by
  rw [List.take_succ_eq_append_getElem hk, lev_snoc, List.length_take, Nat.min_eq_left (by omega)]
theorem lev_take_drop (l : List Nat) (k : Nat) (hk : k ≤ l.length) : lev l = lev (l.take k) + 10 ^ k * lev (l.drop k) := by
  have e2 := congrArg lev (List.take_append_drop k l).symm
  rw [lev_append, List.length_take, Nat.min_eq_left hk] at e2
  exact e2
theorem lev_set {l : List Nat} {k x : Nat} (hk : k < l.length) : lev (l.set k x) + 10 ^ k * l[k] = lev l + 10 ^ k * x := by
  rw [lev_split hk, lev_split (l := l.set k x) (by simpa using hk)]
  rw [List.take_set_of_le (by omega), List.getElem_set_self, List.drop_set_of_lt (by omega), Nat.mul_add, Nat.mul_add]; omega
theorem lev_lt {l : List Nat} (h : ∀ x ∈ l, x ≤ 9) : lev l < 10 ^ l.length := by
  induction l with
  | nil => simp [lev]
  | cons c l ih =>
    have := ih (fun x hx => h x (List.mem_cons_of_mem _ hx))
    have := h c List.mem_cons_self
    simp only [lev, List.length_cons, Nat.pow_succ]; omega
/-- The text of a row of digits. -/
def rtext (l : List Nat) : List UInt8 := (l.map dgt).reverse
theorem rtext_len (l : List Nat) : (rtext l).length = l.length := by simp [rtext]
theorem rtext_snoc (l : List Nat) (x : Nat) : rtext (l ++ [x]) = dgt x :: rtext l := by simp [rtext]
theorem rtext_digs {l : List Nat} (h : ∀ x ∈ l, x ≤ 9) : digs (rtext l) = true := by
  unfold digs rtext
  rw [List.all_eq_true]
  intro c hc
  rw [List.mem_reverse, List.mem_map] at hc
  obtain ⟨x, hx, rfl⟩ := hc
  exact dgt_isd (by have := h x hx; omega)
theorem val_append (l m : List UInt8) : val (l ++ m) = val l * 10 ^ m.length + val m := by
  induction l with
  | nil => simp [val]
  | cons c l ih =>
    simp only [List.cons_append, val, ih, List.length_append, Nat.pow_add, Nat.add_mul, Nat.mul_assoc]; omega
theorem rtext_val {l : List Nat} (h : ∀ x ∈ l, x ≤ 9) : val (rtext l) = lev l := by
  induction l with
  | nil => rfl
  | cons c l ih =>
    have h1 := ih (fun x hx => h x (List.mem_cons_of_mem _ hx))
    have h2 := h c List.mem_cons_self
    have e : rtext (c :: l) = rtext l ++ [dgt c] := by simp [rtext]
    rw [e, val_snoc, h1, dgt_toNat (by omega)]; simp only [lev]; omega
theorem strip_rtext {l : List Nat} (h : ∀ x ∈ l, x ≤ 9) : strip (rtext l) = num (lev l) := by
  rw [strip_num (rtext_digs h), rtext_val h]
theorem dig_snoc {q k i : Nat} (hk : k < 10) : dig (10 * q + k) (i + 1) = dig q i ++ [dgt k] := by
  induction i with
  | zero => simp [dig, Nat.mod_eq_of_lt hk]
  | succ i ih =>
    rw [dig, ih]
    have : (10 * q + k) / 10 ^ (i + 1) = q / 10 ^ i := by
      rw [Nat.pow_succ, Nat.mul_comm (10 ^ i) 10, ← Nat.div_div_eq_div_mul]; congr 1; omega
    rw [this, dig]; rfl

/-! Products. -/
/-- After i rows and j places of the next. -/
def mulTo (a b i j : Nat) : Nat := a % 10 ^ i * b + 10 ^ i * (a / 10 ^ i % 10) * (b % 10 ^ j)
theorem mulTo_step (a b i j : Nat) : mulTo a b i (j + 1) = mulTo a b i j + 10 ^ (i + j) * (a / 10 ^ i % 10 * (b / 10 ^ j % 10)) := by
  unfold mulTo
  rw [mod_succ b j, Nat.mul_add, Nat.pow_add]
  have : 10 ^ i * (a / 10 ^ i % 10) * (10 ^ j * (b / 10 ^ j % 10)) = 10 ^ i * 10 ^ j * (a / 10 ^ i % 10 * (b / 10 ^ j % 10)) := by
    rw [Nat.mul_mul_mul_comm]
  rw [this]; omega
theorem mulTo_row {a b i j : Nat} (hb : b < 10 ^ j) : mulTo a b i j = mulTo a b (i + 1) 0 := by
  unfold mulTo
  rw [Nat.mod_eq_of_lt hb, Nat.pow_zero, Nat.mod_one, Nat.mul_zero, Nat.add_zero, mod_succ a i, Nat.add_mul]
theorem mulTo_zero (a b : Nat) : mulTo a b 0 0 = 0 := by unfold mulTo; simp [Nat.mod_one]
theorem mulTo_all {a b i : Nat} (ha : a < 10 ^ i) : mulTo a b i 0 = a * b := by
  unfold mulTo; rw [Nat.mod_eq_of_lt ha, Nat.pow_zero, Nat.mod_one]; rfl
theorem mulTo_lt {a b i n : Nat} (hb : b < 10 ^ n) : mulTo a b (i + 1) 0 < 10 ^ (i + n + 1) := by
  unfold mulTo
  rw [Nat.pow_zero, Nat.mod_one, Nat.mul_zero, Nat.add_zero]
  have h1 := Nat.mod_lt a (pow_pos' (i + 1))
  have e : (10 : Nat) ^ (i + n + 1) = 10 ^ (i + 1) * 10 ^ n := by rw [← Nat.pow_add]; congr 1; omega
  rw [e]
  exact Nat.mul_lt_mul_of_lt_of_le h1 (Nat.le_of_lt hb) (pow_pos' n)
theorem mul_lt {a b m n : Nat} (ha : a < 10 ^ m) (hb : b < 10 ^ n) : a * b < 10 ^ (m + n) := by
  rw [Nat.pow_add]; exact Nat.mul_lt_mul_of_lt_of_le ha (Nat.le_of_lt hb) (pow_pos' n)
theorem mul_ge {a b m n : Nat} (ha : 10 ^ m ≤ a) (hb : 10 ^ n ≤ b) : 10 ^ (m + n) ≤ a * b := by
  rw [Nat.pow_add]; exact Nat.mul_le_mul ha hb
/-- A product of numerals that are not zero has their places together, or one less. -/
theorem mul_long {a b : List UInt8} (ha : numB a = true) (hb : numB b = true) (h0 : 0 < a.length) (h1 : 0 < b.length) {m : Nat} (h : m + 1 < a.length + b.length) : ¬ (num (val a * val b)).length ≤ m := by
  have h2 : ¬ val a < 10 ^ (a.length - 1) := by rw [← numB_len ha]; omega
  have h3 : ¬ val b < 10 ^ (b.length - 1) := by rw [← numB_len hb]; omega
  have h4 := mul_ge (Nat.le_of_not_lt h2) (Nat.le_of_not_lt h3)
  rw [num_len]
  exact Nat.not_lt.2 (Nat.le_trans (Nat.pow_le_pow_right (by omega) (by omega)) h4)

/-! Quotients. -/
theorem quo_step {x b c : Nat} (hb : 0 < b) : (10 * x + c) / b = 10 * (x / b) + (10 * (x % b) + c) / b ∧ (10 * x + c) % b = (10 * (x % b) + c) % b := by
  have e : 10 * x + c = (10 * (x % b) + c) + b * (10 * (x / b)) := by
    have := Nat.div_add_mod x b
    have h2 : b * (10 * (x / b)) = 10 * (b * (x / b)) := by rw [Nat.mul_left_comm]
    omega
  constructor
  · rw [e, Nat.add_mul_div_left _ _ hb]; omega
  · rw [e, Nat.add_mul_mod_self_left]
theorem quo_lt {x b c : Nat} (hb : 0 < b) (hc : c < 10) : (10 * (x % b) + c) / b < 10 := by
  rw [Nat.div_lt_iff_lt_mul hb]
  have := Nat.mod_lt x hb
  omega
/-- So many have been taken away. -/
theorem sub_more {r b k : Nat} (hb : 0 < b) : b ≤ r - k * b ↔ k < r / b ∨ (b ≤ r - k * b) := by
  constructor
  · intro h; exact .inr h
  · intro h
    rcases h with h | h
    · have : (k + 1) * b ≤ r := (Nat.le_div_iff_mul_le hb).1 h
      rw [Nat.add_mul] at this; omega
    · exact h
theorem take_iff {r b k : Nat} (hb : 0 < b) (hk : k ≤ r / b) : b ≤ r - k * b ↔ k < r / b := by
  have h1 : k < r / b ↔ (k + 1) * b ≤ r := Nat.le_div_iff_mul_le hb
  rw [h1, Nat.add_mul]
  have h2 : k * b ≤ r := (Nat.le_div_iff_mul_le hb).1 hk
  omega
theorem take_all (r b : Nat) : r - r / b * b = r % b := by
  have := Nat.div_add_mod r b
  rw [Nat.mul_comm] at this; omega
end Go.Proofs.YtjidjcnjgjmeoaaDoor.Dig
