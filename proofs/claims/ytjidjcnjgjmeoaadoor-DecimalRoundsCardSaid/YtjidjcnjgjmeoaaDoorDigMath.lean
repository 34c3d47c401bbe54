/-
  Plain facts on numerals: strings of digits, their values, sums, differences, products, quotients. No program.
-/
import Init
namespace Go.Proofs.YtjidjcnjgjmeoaaDoor.Dig

def isd (c : UInt8) : Bool := decide (48 ≤ c.toNat) && decide (c.toNat ≤ 57)
def dgt (d : Nat) : UInt8 := UInt8.ofNat (48 + d)
/-- The value of a string of digits. -/
def val : List UInt8 → Nat
  | [] => 0
  | c :: l => (c.toNat - 48) * 10 ^ l.length + val l
/-- The lowest k digits of x, the highest first. -/
def dig (x : Nat) : Nat → List UInt8
  | 0 => []
  | k + 1 => dgt (x / 10 ^ k % 10) :: dig x k
def strip : List UInt8 → List UInt8
  | [] => []
  | c :: l => if c = 48 then strip l else c :: l
/-- The numeral of a number. -/
def num (n : Nat) : List UInt8 := strip (dig n n)
def digs (l : List UInt8) : Bool := l.all isd
def numB (l : List UInt8) : Bool := digs l && decide (l.head? ≠ some 48)

theorem isd_iff {c : UInt8} : isd c = true ↔ 48 ≤ c.toNat ∧ c.toNat ≤ 57 := by unfold isd; simp
theorem dgt_toNat {d : Nat} (h : d < 10) : (dgt d).toNat = 48 + d := by unfold dgt; rw [UInt8.toNat_ofNat']; omega
theorem dgt_isd {d : Nat} (h : d < 10) : isd (dgt d) = true := by rw [isd_iff, dgt_toNat h]; omega
theorem dgt_of {c : UInt8} (h : isd c = true) : dgt (c.toNat - 48) = c := by
  rw [isd_iff] at h
  apply UInt8.toNat_inj.1
  rw [dgt_toNat (by omega)]; omega
theorem dgt_zero : dgt 0 = 48 := rfl
theorem dgt_inj {a b : Nat} (ha : a < 10) (hb : b < 10) (h : dgt a = dgt b) : a = b := by
  have := congrArg UInt8.toNat h
  rw [dgt_toNat ha, dgt_toNat hb] at this; omega
theorem dig_len (x k : Nat) : (dig x k).length = k := by induction k with
  | zero => rfl
  | succ k ih => simp [dig, ih]
theorem dig_digs (x k : Nat) : digs (dig x k) = true := by induction k with
  | zero => rfl
  | succ k ih => unfold digs at ih ⊢; simp only [dig, List.all_cons, ih, Bool.and_true]; exact dgt_isd (Nat.mod_lt _ (by omega))
theorem pow_pos' (k : Nat) : 0 < 10 ^ k := Nat.pow_pos (by omega)
theorem val_lt {l : List UInt8} (h : digs l = true) : val l < 10 ^ l.length := by
  induction l with
  | nil => simp [val]
  | cons c l ih =>
    unfold digs at h ih
    simp only [List.all_cons, Bool.and_eq_true] at h
    have h1 := ih h.2
    have h2 := isd_iff.1 h.1
    simp only [val, List.length_cons, Nat.pow_succ]
    have h3 : (c.toNat - 48) * 10 ^ l.length ≤ 9 * 10 ^ l.length := Nat.mul_le_mul_right _ (by omega)
    omega
theorem dig_mod (x k : Nat) : dig (x % 10 ^ k) k = dig x k := by
  suffices h : ∀ m, m ≤ k → dig (x % 10 ^ k) m = dig x m from h k (Nat.le_refl _)
  intro m
  induction m with
  | zero => intro _; rfl
  | succ m ih =>
    intro hm
    simp only [dig, ih (by omega)]
    congr 2
    have e : (10 : Nat) ^ k = 10 ^ m * (10 * 10 ^ (k - m - 1)) := by
      rw [← Nat.mul_assoc, ← Nat.pow_succ, ← Nat.pow_add]; congr 1; omega
    rw [e, Nat.mod_mul_right_div_self, Nat.mod_mul_right_mod]
theorem dig_congr {x y k : Nat} (h : x % 10 ^ k = y % 10 ^ k) : dig x k = dig y k := by rw [← dig_mod x, ← dig_mod y, h]
theorem dig_add (x y k : Nat) : dig (x + 10 ^ k * y) k = dig x k := dig_congr (by simp)
theorem val_dig (x k : Nat) : val (dig x k) = x % 10 ^ k := by
  induction k with
  | zero => simp [dig, val, Nat.mod_one]
  | succ k ih =>
    simp only [dig, val, ih, dig_len, dgt_toNat (Nat.mod_lt _ (show 0 < 10 by omega)), Nat.pow_succ]
    rw [Nat.mod_mul, Nat.add_sub_cancel_left, Nat.mul_comm]; omega
theorem dig_val {l : List UInt8} (h : digs l = true) : dig (val l) l.length = l := by
  induction l with
  | nil => rfl
  | cons c l ih =>
    have h' := h
    unfold digs at h
    simp only [List.all_cons, Bool.and_eq_true] at h
    have hl := val_lt (l := l) h.2
    have hc := isd_iff.1 h.1
    simp only [List.length_cons, dig, val]
    have e1 : ((c.toNat - 48) * 10 ^ l.length + val l) / 10 ^ l.length = c.toNat - 48 := by
      rw [Nat.add_comm, Nat.add_mul_div_right _ _ (pow_pos' _), Nat.div_eq_of_lt hl]; omega
    rw [e1, Nat.mod_eq_of_lt (by omega), dgt_of h.1, Nat.add_comm, Nat.mul_comm, dig_add, ih h.2]
theorem val_strip (l : List UInt8) : val (strip l) = val l := by
  induction l with
  | nil => rfl
  | cons c l ih =>
    unfold strip
    split
    · next h => subst h; simp [val, ih]
    · rfl
theorem strip_dig {x k : Nat} (h : x < 10 ^ k) : strip (dig x k) = num x := by
  have up : ∀ j k, x < 10 ^ k → strip (dig x (k + j)) = strip (dig x k) := by
    intro j
    induction j with
    | zero => intros; rfl
    | succ j ih =>
      intro k hk
      have hp : 10 ^ k ≤ 10 ^ (k + j) := Nat.pow_le_pow_right (by omega) (by omega)
      have : x / 10 ^ (k + j) = 0 := Nat.div_eq_of_lt (by omega)
      show strip (dig x (k + j + 1)) = _
      rw [dig, this]
      show strip (48 :: _) = _
      rw [strip, if_pos rfl, ih k hk]
  have hx : x < 10 ^ x := Nat.lt_pow_self (by omega)
  unfold num
  by_cases hk : k ≤ x
  · have := up (x - k) k h
    rw [← this]; congr 2; omega
  · have := up (k - x) x hx
    rw [← this]; congr 2; omega
theorem val_num (n : Nat) : val (num n) = n := by
  unfold num; rw [val_strip, val_dig, Nat.mod_eq_of_lt (Nat.lt_pow_self (by omega))]
theorem strip_sub (l : List UInt8) : strip l <:+ l := by
  induction l with
  | nil => exact List.suffix_refl _
  | cons c l ih =>
    unfold strip; split
    · exact ih.trans (List.suffix_cons _ _)
    · exact List.suffix_refl _
theorem strip_digs {l : List UInt8} (h : digs l = true) : digs (strip l) = true := by
  unfold digs at h ⊢
  rw [List.all_eq_true] at h ⊢
  exact fun x hx => h x ((strip_sub l).subset hx)
theorem strip_head (l : List UInt8) : (strip l).head? ≠ some 48 := by
  induction l with
  | nil => simp [strip]
  | cons c l ih =>
    unfold strip; split
    · exact ih
    · simpa using ‹_›
theorem strip_id {l : List UInt8} (h : l.head? ≠ some 48) : strip l = l := by
  cases l with
  | nil => rfl
  | cons c l => unfold strip; rw [if_neg (by simpa using h)]
theorem strip_num {l : List UInt8} (h : digs l = true) : strip l = num (val l) := by
  rw [← strip_dig (val_lt h), dig_val h]
theorem numB_iff {l : List UInt8} : numB l = true ↔ digs l = true ∧ l.head? ≠ some 48 := by unfold numB; simp
theorem num_val {l : List UInt8} (h : numB l = true) : num (val l) = l := by
  rw [numB_iff] at h; rw [← strip_num h.1, strip_id h.2]
theorem num_digs (n : Nat) : digs (num n) = true := strip_digs (dig_digs _ _)
theorem num_numB (n : Nat) : numB (num n) = true := numB_iff.2 ⟨num_digs n, strip_head _⟩
theorem num_inj {a b : Nat} (h : num a = num b) : a = b := by rw [← val_num a, ← val_num b, h]
theorem num_zero : num 0 = [] := rfl
theorem num_len {n k : Nat} : (num n).length ≤ k ↔ n < 10 ^ k := by
  constructor
  · intro h
    have := val_lt (num_digs n)
    rw [val_num] at this
    exact Nat.lt_of_lt_of_le this (Nat.pow_le_pow_right (by omega) h)
  · intro h
    rw [← strip_dig h]
    have := (strip_sub (dig n k)).length_le
    rw [dig_len] at this; exact this
theorem num_nil {n : Nat} : num n = [] ↔ n = 0 := by
  constructor
  · intro h; rw [← val_num n, h]; rfl
  · rintro rfl; rfl
theorem val_nil {l : List UInt8} (h : numB l = true) : val l = 0 ↔ l = [] := by
  rw [← num_nil, num_val h]
/-- The numeral's length says where its value lies. -/
theorem numB_len {l : List UInt8} (h : numB l = true) {k : Nat} : l.length ≤ k ↔ val l < 10 ^ k := by
  rw [← num_len, num_val h]
theorem len_lt_val {a b : List UInt8} (ha : digs a = true) (hb : numB b = true) (h : a.length < b.length) : val a < val b := by
  have h1 := val_lt ha
  have h2 : ¬ val b < 10 ^ a.length := by rw [← numB_len hb]; omega
  omega

/-- The digit number i, counted from the end. -/
theorem dig_get {x k i : Nat} (h : i < k) : (dig x k)[k - 1 - i]? = some (dgt (x / 10 ^ i % 10)) := by
  induction k with
  | zero => omega
  | succ k ih =>
    by_cases hi : i = k
    · subst hi; simp [dig]
    · have : k + 1 - 1 - i = (k - 1 - i) + 1 := by omega
      rw [this, dig, List.getElem?_cons_succ, ih (by omega)]
theorem get_dig {l : List UInt8} (hd : digs l = true) {i : Nat} (h : i < l.length) : l[l.length - 1 - i]? = some (dgt (val l / 10 ^ i % 10)) := by
  have := dig_get (x := val l) h
  rw [dig_val hd] at this; exact this
theorem digit_val {l : List UInt8} (hd : digs l = true) {i : Nat} (h : i < l.length) : ((l[l.length - 1 - i]'(by omega)).toNat) = 48 + val l / 10 ^ i % 10 := by
  have := get_dig hd h
  rw [List.getElem?_eq_getElem (by omega)] at this
  injection this with this
  rw [this, dgt_toNat (Nat.mod_lt _ (by omega))]
theorem digit_past {l : List UInt8} (hd : digs l = true) {i : Nat} (h : l.length ≤ i) : val l / 10 ^ i % 10 = 0 := by
  have := val_lt hd
  have h2 : 10 ^ l.length ≤ 10 ^ i := Nat.pow_le_pow_right (by omega) h
  rw [Nat.div_eq_of_lt (by omega)]

theorem mod_succ (x i : Nat) : x % 10 ^ (i + 1) = x % 10 ^ i + 10 ^ i * (x / 10 ^ i % 10) := by rw [Nat.pow_succ, Nat.mod_mul]
theorem div_succ (x i : Nat) : x / 10 ^ (i + 1) = x / 10 ^ i / 10 := by rw [Nat.pow_succ, Nat.div_div_eq_div_mul]
theorem add_pow_div (x y i : Nat) : (x + 10 ^ i * y) / 10 ^ i = x / 10 ^ i + y := by rw [Nat.add_mul_div_left _ _ (pow_pos' i)]

/-- One more digit of what has grown at place i alone. -/
theorem dig_step (x y i : Nat) : dig (x + 10 ^ i * y) (i + 1) = dgt ((x / 10 ^ i + y) % 10) :: dig x i := by
  rw [dig, add_pow_div, dig_add]
theorem carry_step (x y i : Nat) : (x + 10 ^ i * y) / 10 ^ (i + 1) = (x / 10 ^ i + y) / 10 := by rw [div_succ, add_pow_div]

/-! Sums. -/
/-- What the lowest i digits of two numbers make. -/
def sumTo (a b i : Nat) : Nat := a % 10 ^ i + b % 10 ^ i
theorem sumTo_succ (a b i : Nat) : sumTo a b (i + 1) = sumTo a b i + 10 ^ i * (a / 10 ^ i % 10 + b / 10 ^ i % 10) := by
  unfold sumTo; rw [mod_succ a, mod_succ b, Nat.mul_add]; omega
theorem sumTo_all {a b n : Nat} (ha : a < 10 ^ n) (hb : b < 10 ^ n) : sumTo a b n = a + b := by
  unfold sumTo; rw [Nat.mod_eq_of_lt ha, Nat.mod_eq_of_lt hb]
theorem sumTo_carry (a b i : Nat) : sumTo a b i / 10 ^ i ≤ 1 := by
  unfold sumTo
  have h1 := Nat.mod_lt a (pow_pos' i)
  have h2 := Nat.mod_lt b (pow_pos' i)
  have : (a % 10 ^ i + b % 10 ^ i) / 10 ^ i < 2 := (Nat.div_lt_iff_lt_mul (pow_pos' i)).2 (by omega)
  omega
/-! Differences. -/
def subTo (a b i : Nat) : Nat := 10 ^ i + a % 10 ^ i - b % 10 ^ i
theorem subTo_succ (a b i : Nat) : subTo a b (i + 1) = subTo a b i + 10 ^ i * (9 + a / 10 ^ i % 10 - b / 10 ^ i % 10) := by
  unfold subTo
  have h2 := Nat.mod_lt b (pow_pos' i)
  have h3 : b / 10 ^ i % 10 ≤ 9 := by omega
  have e : 10 ^ i * (9 + a / 10 ^ i % 10 - b / 10 ^ i % 10) + 10 ^ i * (b / 10 ^ i % 10) = 9 * 10 ^ i + 10 ^ i * (a / 10 ^ i % 10) := by
    rw [← Nat.mul_add, Nat.mul_comm 9, ← Nat.mul_add]; congr 1; omega
  rw [mod_succ a, mod_succ b, Nat.pow_succ]; omega
theorem subTo_carry (a b i : Nat) : subTo a b i / 10 ^ i ≤ 1 := by
  unfold subTo
  have h1 := Nat.mod_lt a (pow_pos' i)
  have : (10 ^ i + a % 10 ^ i - b % 10 ^ i) / 10 ^ i < 2 := (Nat.div_lt_iff_lt_mul (pow_pos' i)).2 (by omega)
  omega
theorem subTo_all {a b n : Nat} (ha : a < 10 ^ n) (hb : b ≤ a) : dig (subTo a b n) n = dig (a - b) n := by
  unfold subTo
  rw [Nat.mod_eq_of_lt ha, Nat.mod_eq_of_lt (show b < 10 ^ n by omega)]
  have : 10 ^ n + a - b = (a - b) + 10 ^ n * 1 := by omega
  rw [this, dig_add]

/-! Order. -/
theorem cmp_len {a b : List UInt8} (ha : digs a = true) (hb : digs b = true) (hl : a.length = b.length) : (a < b ↔ val a < val b) ∧ (a = b ↔ val a = val b) := by
  induction a generalizing b with
  | nil =>
    cases b with
    | nil => simp
    | cons => simp at hl
  | cons x a ih =>
    cases b with
    | nil => simp at hl
    | cons y b =>
      have ha0 := ha; have hb0 := hb
      unfold digs at ha hb
      simp only [List.all_cons, Bool.and_eq_true] at ha hb
      have hl' : a.length = b.length := by simpa using hl
      obtain ⟨h1, h2⟩ := ih ha.2 hb.2 hl'
      have va := val_lt (l := a) ha.2
      have vb := val_lt (l := b) hb.2
      have hx := isd_iff.1 ha.1
      have hy := isd_iff.1 hb.1
      simp only [val, hl'] at va ⊢
      have mono : ∀ {p q u v : Nat}, p < q → u < 10 ^ b.length → p * 10 ^ b.length + u < q * 10 ^ b.length + v := by
        intro p q u v hpq hu
        have : (p + 1) * 10 ^ b.length ≤ q * 10 ^ b.length := Nat.mul_le_mul_right _ hpq
        rw [Nat.add_mul] at this; omega
      have hlt : x < y ↔ x.toNat < y.toNat := UInt8.lt_iff_toNat_lt
      have heq : x = y ↔ x.toNat = y.toNat := UInt8.toNat_inj.symm
      rcases Nat.lt_trichotomy x.toNat y.toNat with h | h | h
      · have m := mono (v := val b) (show x.toNat - 48 < y.toNat - 48 by omega) va
        rw [List.cons_lt_cons_iff, hlt]
        refine ⟨⟨fun _ => m, fun _ => .inl h⟩, ⟨fun e => ?_, fun e => by omega⟩⟩
        injection e with e1 e2; rw [heq] at e1; omega
      · have hxy := heq.2 h
        subst hxy
        rw [List.cons_lt_cons_iff, h1]
        refine ⟨⟨fun e => ?_, fun e => .inr ⟨rfl, by omega⟩⟩, ⟨fun e => ?_, fun e => ?_⟩⟩
        · rcases e with e | ⟨_, e⟩
          · rw [hlt] at e; omega
          · omega
        · injection e with e1 e2; rw [h2] at e2; omega
        · rw [h2.2 (by omega)]
      · have m := mono (v := val a) (show y.toNat - 48 < x.toNat - 48 by omega) vb
        rw [List.cons_lt_cons_iff, hlt]
        refine ⟨⟨fun e => ?_, fun e => by omega⟩, ⟨fun e => ?_, fun e => by omega⟩⟩
        · rcases e with e | ⟨e, _⟩
          · omega
          · rw [heq] at e; omega
        · injection e with e1 e2; rw [heq] at e1; omega

/-! A digit appended. -/
theorem val_snoc (l : List UInt8) (c : UInt8) : val (l ++ [c]) = val l * 10 + (c.toNat - 48) := by
  induction l with
  | nil => simp [val]
  | cons x l ih =>
    simp only [List.cons_append, val, ih, List.length_append, List.length_singleton, Nat.pow_succ]
    rw [Nat.add_mul, Nat.mul_assoc]; omega
theorem digs_snoc {l : List UInt8} {c : UInt8} : digs (l ++ [c]) = (digs l && isd c) := by unfold digs; simp
theorem digs_take {l : List UInt8} (h : digs l = true) (k : Nat) : digs (l.take k) = true := by
  unfold digs at h ⊢
  rw [List.all_eq_true] at h ⊢
  exact fun x hx => h x (List.mem_of_mem_take hx)
theorem digs_get {l : List UInt8} (h : digs l = true) {k : Nat} (hk : k < l.length) : isd l[k] = true := by
  unfold digs at h
  rw [List.all_eq_true] at h
  exact h _ (List.getElem_mem hk)
theorem val_take_succ {l : List UInt8} {k : Nat} (hk : k < l.length) : val (l.take (k + 1)) = val (l.take k) * 10 + (l[k].toNat - 48) := by
  rw [List.take_succ_eq_append_getElem hk, val_snoc]
theorem val_take {l : List UInt8} (h : digs l = true) {k : Nat} (hk : k ≤ l.length) : val (l.take k) = val l / 10 ^ (l.length - k) := by
  have e := dig_val h
  have h1 : ∀ x n k, k ≤ n → (dig x n).take k = dig (x / 10 ^ (n - k)) k := by
    intro x n k
    induction k generalizing n with
    | zero => intros; simp [dig]
    | succ k ih =>
      intro hk
      obtain ⟨n, rfl⟩ : ∃ m, n = m + 1 := ⟨n - 1, by omega⟩
      have hn : n + 1 - (k + 1) = n - k := by omega
      rw [dig, List.take_succ_cons, ih n (by omega), hn, dig, Nat.div_div_eq_div_mul, ← Nat.pow_add, show n - k + k = n by omega]
  have := h1 (val l) l.length k hk
  rw [e] at this
  rw [this, val_dig, Nat.mod_eq_of_lt]
  have hl := val_lt h
  rw [Nat.div_lt_iff_lt_mul (pow_pos' _), ← Nat.pow_add, show k + (l.length - k) = l.length by omega]
  exact hl
end Go.Proofs.YtjidjcnjgjmeoaaDoor.Dig
