/-
  Bits of bytes and of base64 digits: plain mathematics.
-/
import Derived.Lib.Strings
namespace Go.Proofs.Ytacmallcfaokpaa.Bas

/-- The number of n bits from bit i on. -/
def vl (f : Nat → Nat) (i : Nat) : Nat → Nat
  | 0 => 0
  | n + 1 => 2 * vl f i n + f (i + n)
theorem vl_add (f : Nat → Nat) (i n m : Nat) : vl f i (n + m) = vl f i n * 2 ^ m + vl f (i + n) m := by
  induction m with
  | zero => simp [vl]
  | succ m ih =>
    rw [← Nat.add_assoc]
    show 2 * vl f i (n + m) + f (i + (n + m)) = _
    rw [ih]
    show _ = vl f i n * 2 ^ (m + 1) + (2 * vl f (i + n) m + f (i + n + m))
    rw [Nat.pow_succ, Nat.add_assoc i n m, Nat.mul_add]
    have : 2 * (vl f i n * 2 ^ m) = vl f i n * (2 ^ m * 2) := by
      rw [Nat.mul_comm 2, Nat.mul_assoc]
    omega
def Bit (f : Nat → Nat) : Prop := ∀ i, f i < 2
theorem vl_lt {f : Nat → Nat} (hf : Bit f) (i n : Nat) : vl f i n < 2 ^ n := by
  induction n with
  | zero => simp [vl]
  | succ n ih =>
    show 2 * vl f i n + f (i + n) < _
    have := hf (i + n)
    rw [Nat.pow_succ]; omega
theorem vl_congr {f g : Nat → Nat} {i n : Nat} (h : ∀ k, i ≤ k → k < i + n → f k = g k) : vl f i n = vl g i n := by
  induction n with
  | zero => rfl
  | succ n ih =>
    show 2 * vl f i n + f (i + n) = 2 * vl g i n + g (i + n)
    rw [ih (fun k h1 h2 => h k h1 (by omega)), h _ (by omega) (by omega)]
theorem vl_zero {f : Nat → Nat} {i n : Nat} (h : ∀ k, i ≤ k → k < i + n → f k = 0) : vl f i n = 0 := by
  induction n with
  | zero => rfl
  | succ n ih =>
    show 2 * vl f i n + f (i + n) = 0
    rw [ih (fun k h1 h2 => h k h1 (by omega)), h _ (by omega) (by omega)]
theorem vl_zero_of {f : Nat → Nat} {i n : Nat} (h : vl f i n = 0) : ∀ k, i ≤ k → k < i + n → f k = 0 := by
  induction n with
  | zero => intro k h1 h2; omega
  | succ n ih =>
    have h : 2 * vl f i n + f (i + n) = 0 := h
    intro k h1 h2
    by_cases e : k = i + n
    · rw [e]; omega
    · exact ih (by omega) k h1 (by omega)
theorem vl_inj {f g : Nat → Nat} (hf : Bit f) (hg : Bit g) {i n : Nat} (h : vl f i n = vl g i n) : ∀ k, i ≤ k → k < i + n → f k = g k := by
  induction n with
  | zero => intro k h1 h2; omega
  | succ n ih =>
    have h : 2 * vl f i n + f (i + n) = 2 * vl g i n + g (i + n) := h
    have a := hf (i + n)
    have b := hg (i + n)
    intro k h1 h2
    by_cases e : k = i + n
    · rw [e]; omega
    · exact ih (by omega) k h1 (by omega)
theorem vl_mid {f : Nat → Nat} (hf : Bit f) (i a c m : Nat) : vl f i (a + c + m) / 2 ^ m % 2 ^ c = vl f (i + a) c := by
  rw [vl_add f i (a + c) m, Nat.mul_comm, Nat.mul_add_div (Nat.two_pow_pos m), Nat.div_eq_of_lt (vl_lt hf _ _), Nat.add_zero, vl_add f i a c, Nat.mul_comm, Nat.mul_add_mod, Nat.mod_eq_of_lt (vl_lt hf _ _)]
theorem vl_low {f : Nat → Nat} (hf : Bit f) (i a m : Nat) : vl f i (a + m) % 2 ^ m = vl f (i + a) m := by
  have := vl_mid hf i a m 0
  simpa using this
/-- Bit i of bytes; the first one is the most significant one of the first byte; 0 behind the end. -/
def bt (l : List UInt8) (i : Nat) : Nat := (l.getD (i / 8) 0).toNat / 2 ^ (7 - i % 8) % 2
/-- Bit i of base64 digits. -/
def b6 (l : List Nat) (i : Nat) : Nat := l.getD (i / 6) 0 / 2 ^ (5 - i % 6) % 2
theorem bt_bit (l : List UInt8) : Bit (bt l) := fun _ => Nat.mod_lt _ (by omega)
theorem b6_bit (l : List Nat) : Bit (b6 l) := fun _ => Nat.mod_lt _ (by omega)
theorem bt_end {l : List UInt8} {i : Nat} (h : l.length * 8 ≤ i) : bt l i = 0 := by
  unfold bt
  rw [List.getD_eq_getElem?_getD, List.getElem?_eq_none (by omega)]
  simp
theorem b6_end {l : List Nat} {i : Nat} (h : l.length * 6 ≤ i) : b6 l i = 0 := by
  unfold b6
  rw [List.getD_eq_getElem?_getD, List.getElem?_eq_none (by omega)]
  simp
theorem vl_byte {f : Nat → Nat} {i x : Nat} (hx : x < 256) (h : ∀ r, r < 8 → f (i + r) = x / 2 ^ (7 - r) % 2) : vl f i 8 = x := by
  have h0 := h 0 (by omega); have h1 := h 1 (by omega); have h2 := h 2 (by omega); have h3 := h 3 (by omega)
  have h4 := h 4 (by omega); have h5 := h 5 (by omega); have h6 := h 6 (by omega); have h7 := h 7 (by omega)
  simp at h0 h1 h2 h3 h4 h5 h6 h7
  simp [vl]
  omega
theorem vl_six {f : Nat → Nat} {i x : Nat} (hx : x < 64) (h : ∀ r, r < 6 → f (i + r) = x / 2 ^ (5 - r) % 2) : vl f i 6 = x := by
  have h0 := h 0 (by omega); have h1 := h 1 (by omega); have h2 := h 2 (by omega); have h3 := h 3 (by omega)
  have h4 := h 4 (by omega); have h5 := h 5 (by omega)
  simp at h0 h1 h2 h3 h4 h5
  simp [vl]
  omega
theorem vl_bt (l : List UInt8) (k : Nat) : vl (bt l) (8 * k) 8 = (l.getD k 0).toNat := by
  refine vl_byte (UInt8.toNat_lt _) fun r hr => ?_
  unfold bt
  rw [show (8 * k + r) / 8 = k by omega, show (8 * k + r) % 8 = r by omega]
theorem vl_b6 {l : List Nat} (h : ∀ x ∈ l, x < 64) (k : Nat) : vl (b6 l) (6 * k) 6 = l.getD k 0 := by
  refine vl_six ?_ fun r hr => ?_
  · rw [List.getD_eq_getElem?_getD]
    by_cases hk : k < l.length
    · rw [List.getElem?_eq_getElem hk]; exact h _ (List.getElem_mem _)
    · rw [List.getElem?_eq_none (by omega)]; simp
  · unfold b6
    rw [show (6 * k + r) / 6 = k by omega, show (6 * k + r) % 6 = r by omega]
theorem vl_of_bits {f g : Nat → Nat} {i j n : Nat} (h : ∀ k, k < n → f (i + k) = g (j + k)) : vl f i n = vl g j n := by
  induction n with
  | zero => rfl
  | succ n ih =>
    show 2 * vl f i n + f (i + n) = 2 * vl g j n + g (j + n)
    rw [ih (fun k hk => h k (by omega)), h _ (by omega)]
/-- Bits in the middle of a number that bits make up. -/
theorem bit_of_vl {f : Nat → Nat} (hf : Bit f) (i n r : Nat) (hr : r < n) : vl f i n / 2 ^ (n - 1 - r) % 2 = f (i + r) := by
  have := vl_mid hf i r 1 (n - 1 - r)
  rw [show r + 1 + (n - 1 - r) = n by omega] at this
  rw [show (2 : Nat) = 2 ^ 1 from rfl]
  rw [show (2 ^ 1) ^ (n - 1 - r) = 2 ^ (n - 1 - r) from rfl, this]
  simp [vl]
/-- The digits of bytes. -/
def sx (l : List UInt8) : List Nat := (List.range ((8 * l.length + 5) / 6)).map fun j => vl (bt l) (6 * j) 6
/-- The bytes of digits. -/
def by8 (l : List Nat) : List UInt8 := (List.range (6 * l.length / 8)).map fun k => (vl (b6 l) (8 * k) 8).toUInt8
theorem sx_len (l : List UInt8) : (sx l).length = (8 * l.length + 5) / 6 := by simp [sx]
theorem by8_len (l : List Nat) : (by8 l).length = 6 * l.length / 8 := by simp [by8]
theorem sx_get {l : List UInt8} {j : Nat} (h : j < (sx l).length) : (sx l)[j] = vl (bt l) (6 * j) 6 := by simp [sx]
theorem sx_lt (l : List UInt8) : ∀ x ∈ sx l, x < 64 := by
  intro x hx
  simp only [sx, List.mem_map] at hx
  obtain ⟨j, _, rfl⟩ := hx
  exact vl_lt (bt_bit l) _ 6
theorem by8_get {l : List Nat} {k : Nat} (h : k < (by8 l).length) : (by8 l)[k].toNat = vl (b6 l) (8 * k) 8 := by
  simp only [by8, List.getElem_map, List.getElem_range]
  exact Nat.mod_eq_of_lt (vl_lt (b6_bit l) _ 8)
theorem b6_sx (l : List UInt8) (i : Nat) : b6 (sx l) i = bt l i := by
  by_cases h : i / 6 < (sx l).length
  · unfold b6
    rw [List.getD_eq_getElem?_getD, List.getElem?_eq_getElem h, Option.getD_some, sx_get h]
    have := bit_of_vl (bt_bit l) (6 * (i / 6)) 6 (i % 6) (by omega)
    rw [show 6 - 1 - i % 6 = 5 - i % 6 by omega, show 6 * (i / 6) + i % 6 = i by omega] at this
    exact this
  · rw [b6_end (by omega), bt_end (by rw [sx_len] at h; omega)]
theorem bt_by8 {l : List Nat} {i : Nat} (h : i < 8 * (6 * l.length / 8)) : bt (by8 l) i = b6 l i := by
  have hk : i / 8 < (by8 l).length := by rw [by8_len]; omega
  unfold bt
  rw [List.getD_eq_getElem?_getD, List.getElem?_eq_getElem hk, Option.getD_some, by8_get hk]
  have := bit_of_vl (b6_bit l) (8 * (i / 8)) 8 (i % 8) (by omega)
  rw [show 8 - 1 - i % 8 = 7 - i % 8 by omega, show 8 * (i / 8) + i % 8 = i by omega] at this
  exact this
theorem bytes_ext {a b : List UInt8} (hl : a.length = b.length) (h : ∀ i, i < 8 * a.length → bt a i = bt b i) : a = b := by
  apply List.ext_getElem hl
  intro k h1 h2
  have e : vl (bt a) (8 * k) 8 = vl (bt b) (8 * k) 8 := vl_congr fun j j1 j2 => h j (by omega)
  rw [vl_bt, vl_bt, List.getD_eq_getElem?_getD, List.getD_eq_getElem?_getD, List.getElem?_eq_getElem h1, List.getElem?_eq_getElem h2] at e
  exact UInt8.toNat_inj.1 e
theorem digits_ext {a b : List Nat} (ha : ∀ x ∈ a, x < 64) (hb : ∀ x ∈ b, x < 64) (hl : a.length = b.length) (h : ∀ i, i < 6 * a.length → b6 a i = b6 b i) : a = b := by
  apply List.ext_getElem hl
  intro k h1 h2
  have e : vl (b6 a) (6 * k) 6 = vl (b6 b) (6 * k) 6 := vl_congr fun j j1 j2 => h j (by omega)
  rw [vl_b6 ha, vl_b6 hb, List.getD_eq_getElem?_getD, List.getD_eq_getElem?_getD, List.getElem?_eq_getElem h1, List.getElem?_eq_getElem h2] at e
  exact e
/-- Bytes are those of their digits. -/
theorem by8_sx (l : List UInt8) : by8 (sx l) = l := by
  have hl : (by8 (sx l)).length = l.length := by rw [by8_len, sx_len]; omega
  refine bytes_ext hl fun i hi => ?_
  rw [bt_by8 (by rw [sx_len]; omega), b6_sx]
/-- What is left of digits behind the last whole byte. -/
def rest (l : List Nat) : Nat := vl (b6 l) (8 * (6 * l.length / 8)) (6 * l.length - 8 * (6 * l.length / 8))
/-- The digits are those of the bytes that they say. -/
def whole (l : List Nat) : Bool := decide (l.length % 4 ≠ 1) && decide (rest l = 0)
theorem sx_by8 {l : List Nat} (hl : ∀ x ∈ l, x < 64) : sx (by8 l) = l ↔ whole l = true := by
  unfold whole
  rw [Bool.and_eq_true, decide_eq_true_iff, decide_eq_true_iff]
  constructor
  · intro h
    have h1 := congrArg List.length h
    rw [sx_len, by8_len] at h1
    refine ⟨by omega, ?_⟩
    refine vl_zero fun k k1 k2 => ?_
    rw [← h, b6_sx]
    exact bt_end (by rw [by8_len]; omega)
  · rintro ⟨h1, h2⟩
    have e : (sx (by8 l)).length = l.length := by
      rw [sx_len, by8_len]
      obtain ⟨q, r, hq, hr⟩ : ∃ q r, l.length = 4 * q + r ∧ r < 4 := ⟨l.length / 4, l.length % 4, by omega, by omega⟩
      rw [hq] at h1 ⊢
      rcases (by omega : r = 0 ∨ r = 1 ∨ r = 2 ∨ r = 3) with rfl | rfl | rfl | rfl <;> omega
    refine digits_ext (sx_lt _) hl e fun i hi => ?_
    rw [b6_sx]
    by_cases h : i < 8 * (6 * l.length / 8)
    · exact bt_by8 h
    · rw [bt_end (by rw [by8_len]; omega)]
      exact (vl_zero_of h2 i (by omega) (by omega)).symm
theorem whole_sx (l : List UInt8) : whole (sx l) = true := by
  rw [← sx_by8 (sx_lt l), by8_sx]
/-- The first digits say the first bytes. -/
theorem by8_take (l : List Nat) (n : Nat) (hn : n ≤ l.length) : by8 (l.take n) = (by8 l).take (6 * n / 8) := by
  have hlt : (l.take n).length = n := by simp; omega
  have hl : (by8 (l.take n)).length = ((by8 l).take (6 * n / 8)).length := by
    rw [by8_len, hlt, List.length_take, by8_len]; omega
  have hb : ∀ i, i < 6 * n → b6 (l.take n) i = b6 l i := by
    intro i hi
    unfold b6
    rw [List.getD_eq_getElem?_getD, List.getD_eq_getElem?_getD, List.getElem?_take_of_lt (by omega)]
  refine bytes_ext hl fun i hi => ?_
  rw [by8_len, hlt] at hi
  rw [bt_by8 (by rw [hlt]; omega), hb i (by omega)]
  have : bt ((by8 l).take (6 * n / 8)) i = bt (by8 l) i := by
    unfold bt
    rw [List.getD_eq_getElem?_getD, List.getD_eq_getElem?_getD, List.getElem?_take_of_lt (by omega)]
  rw [this, bt_by8 (by omega)]
end Go.Proofs.Ytacmallcfaokpaa.Bas
