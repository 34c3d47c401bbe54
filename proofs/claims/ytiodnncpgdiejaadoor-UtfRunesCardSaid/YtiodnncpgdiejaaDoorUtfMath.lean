/-
  Plain facts on UTF-8: the encoding of a character, the character that a list of bytes begins with. No program.
-/
import Derived.Lib.DecodeN
namespace Go.Proofs.YtiodnncpgdiejaaDoor.Utf

def chr (r : Nat) : Bool := decide (r < 55296) || (decide (57344 ≤ r) && decide (r ≤ 1114111))
theorem chr_iff {r : Nat} : chr r = true ↔ r < 55296 ∨ (57344 ≤ r ∧ r ≤ 1114111) := by unfold chr; simp
def byt (n : Nat) : UInt8 := UInt8.ofNat n
theorem byt_toNat {n : Nat} (h : n < 256) : (byt n).toNat = n := by unfold byt; rw [UInt8.toNat_ofNat']; omega
theorem byt_of (c : UInt8) : byt c.toNat = c := UInt8.ofNat_toNat
def enc (r : Nat) : List UInt8 :=
  if r < 128 then [byt r]
  else if r < 2048 then [byt (192 + r / 64), byt (128 + r % 64)]
  else if r < 65536 then [byt (224 + r / 4096), byt (128 + r / 64 % 64), byt (128 + r % 64)]
  else [byt (240 + r / 262144), byt (128 + r / 4096 % 64), byt (128 + r / 64 % 64), byt (128 + r % 64)]
/-- The character of at most four bytes, of n that are there; (0, 0) if there is none. -/
def dec (n b0 b1 b2 b3 : Nat) : Nat × Nat := if n = 0 ∨ Lib.decodeN n b0 b1 b2 b3 = (65533, 1) then (0, 0) else Lib.decodeN n b0 b1 b2 b3
def nth (l : List UInt8) (i : Nat) : Nat := (l.getD i 0).toNat
/-- The character that a list begins with, and its length; (0, 0) if there is none. -/
def hd (l : List UInt8) : Nat × Nat := dec l.length (nth l 0) (nth l 1) (nth l 2) (nth l 3)

theorem nth_lt (l : List UInt8) (i : Nat) : nth l i < 256 := (l.getD i 0).toNat_lt
theorem byt_nth (l : List UInt8) (i : Nat) : byt (nth l i) = l.getD i 0 := byt_of _
theorem take1 {l : List UInt8} (h : 1 ≤ l.length) : l.take 1 = [byt (nth l 0)] := by
  match l, h with
  | a :: _, _ => simp [nth, byt_of]
theorem take2 {l : List UInt8} (h : 2 ≤ l.length) : l.take 2 = [byt (nth l 0), byt (nth l 1)] := by
  match l, h with
  | a :: b :: _, _ => simp [nth, byt_of]
theorem take3 {l : List UInt8} (h : 3 ≤ l.length) : l.take 3 = [byt (nth l 0), byt (nth l 1), byt (nth l 2)] := by
  match l, h with
  | a :: b :: c :: _, _ => simp [nth, byt_of]
theorem take4 {l : List UInt8} (h : 4 ≤ l.length) : l.take 4 = [byt (nth l 0), byt (nth l 1), byt (nth l 2), byt (nth l 3)] := by
  match l, h with
  | a :: b :: c :: d :: _, _ => simp [nth, byt_of]
theorem enc_len (r : Nat) : (enc r).length = if r < 128 then 1 else if r < 2048 then 2 else if r < 65536 then 3 else 4 := by
  unfold enc; repeat' split
  all_goals rfl

/-- What dec finds. -/
theorem dec_cases {n b0 b1 b2 b3 r k : Nat} (h0 : b0 < 256) (h1 : b1 < 256) (h2 : b2 < 256) (_h3 : b3 < 256) (h : dec n b0 b1 b2 b3 = (r, k)) (hk : k ≠ 0) :
    chr r = true ∧ k ≤ n ∧
    ((k = 1 ∧ r < 128 ∧ b0 = r) ∨
     (k = 2 ∧ 128 ≤ r ∧ r < 2048 ∧ b0 = 192 + r / 64 ∧ b1 = 128 + r % 64) ∨
     (k = 3 ∧ 2048 ≤ r ∧ r < 65536 ∧ b0 = 224 + r / 4096 ∧ b1 = 128 + r / 64 % 64 ∧ b2 = 128 + r % 64) ∨
     (k = 4 ∧ 65536 ≤ r ∧ b0 = 240 + r / 262144 ∧ b1 = 128 + r / 4096 % 64 ∧ b2 = 128 + r / 64 % 64 ∧ b3 = 128 + r % 64)) := by
  unfold dec at h
  split at h
  · injection h with _ h; exact absurd h.symm hk
  · next hn =>
    unfold Lib.decodeN at h hn
    rw [chr_iff]
    repeat' split at h
    all_goals first
      | (injection h with e1 e2; subst e1; subst e2; omega)
      | (simp_all; done)
      | skip

theorem dec_1 {n r b1 b2 b3 : Nat} (hn : 1 ≤ n) (hr : r < 128) : dec n r b1 b2 b3 = (r, 1) := by
  have e : Lib.decodeN n r b1 b2 b3 = (r, 1) := by unfold Lib.decodeN; rw [if_pos hr]
  unfold dec
  rw [if_neg (by rw [e]; rintro (h | h); omega; injection h; omega), e]
theorem dec_2 {n r b2 b3 : Nat} (hn : 2 ≤ n) (h1 : 128 ≤ r) (h2 : r < 2048) : dec n (192 + r / 64) (128 + r % 64) b2 b3 = (r, 2) := by
  have e : Lib.decodeN n (192 + r / 64) (128 + r % 64) b2 b3 = (r, 2) := by
    unfold Lib.decodeN
    rw [if_neg (by omega), if_pos (by omega), if_pos (by omega)]
    congr 1; omega
  unfold dec
  rw [if_neg (by rw [e]; rintro (h | h); omega; injection h; omega), e]
theorem dec_3 {n r b3 : Nat} (hn : 3 ≤ n) (hc : chr r = true) (h1 : 2048 ≤ r) (h2 : r < 65536) : dec n (224 + r / 4096) (128 + r / 64 % 64) (128 + r % 64) b3 = (r, 3) := by
  rw [chr_iff] at hc
  have g : (224 + r / 4096) % 16 * 4096 + (128 + r / 64 % 64) % 64 * 64 + (128 + r % 64) % 64 = r := by omega
  have e : Lib.decodeN n (224 + r / 4096) (128 + r / 64 % 64) (128 + r % 64) b3 = (r, 3) := by
    unfold Lib.decodeN
    rw [if_neg (by omega), if_neg (by omega), if_pos (by omega), if_pos (by rw [g]; omega), g]
  unfold dec
  rw [if_neg (by rw [e]; rintro (h | h); omega; injection h; omega), e]
theorem dec_4 {n r : Nat} (hn : 4 ≤ n) (hc : chr r = true) (h1 : 65536 ≤ r) : dec n (240 + r / 262144) (128 + r / 4096 % 64) (128 + r / 64 % 64) (128 + r % 64) = (r, 4) := by
  rw [chr_iff] at hc
  have g : (240 + r / 262144) % 8 * 262144 + (128 + r / 4096 % 64) % 64 * 4096 + (128 + r / 64 % 64) % 64 * 64 + (128 + r % 64) % 64 = r := by omega
  have e : Lib.decodeN n (240 + r / 262144) (128 + r / 4096 % 64) (128 + r / 64 % 64) (128 + r % 64) = (r, 4) := by
    unfold Lib.decodeN
    rw [if_neg (by omega), if_neg (by omega), if_neg (by omega), if_pos (by omega), if_pos (by rw [g]; omega), g]
  unfold dec
  rw [if_neg (by rw [e]; rintro (h | h); omega; injection h; omega), e]
/-- A character is found where its encoding stands. -/
theorem hd_enc {r : Nat} (hc : chr r = true) (l : List UInt8) : hd (enc r ++ l) = (r, (enc r).length) := by
  have hc' := hc
  rw [chr_iff] at hc'
  unfold hd enc
  by_cases h1 : r < 128
  · simp only [h1, if_true]
    simp only [nth, List.cons_append, List.nil_append, List.getD_cons_zero, List.length_cons, List.length_nil]
    rw [byt_toNat (by omega)]
    exact dec_1 (by omega) h1
  · by_cases h2 : r < 2048
    · simp only [h1, h2, if_true, if_false]
      simp only [nth, List.cons_append, List.nil_append, List.getD_cons_zero, List.getD_cons_succ, List.length_cons, List.length_nil]
      rw [byt_toNat (by omega), byt_toNat (by omega)]
      exact dec_2 (by omega) (by omega) h2
    · by_cases h3 : r < 65536
      · simp only [h1, h2, h3, if_true, if_false]
        simp only [nth, List.cons_append, List.nil_append, List.getD_cons_zero, List.getD_cons_succ, List.length_cons, List.length_nil]
        rw [byt_toNat (by omega), byt_toNat (by omega), byt_toNat (by omega)]
        exact dec_3 (by omega) hc (by omega) h3
      · simp only [h1, h2, h3, if_false]
        simp only [nth, List.cons_append, List.nil_append, List.getD_cons_zero, List.getD_cons_succ, List.length_cons, List.length_nil]
        rw [byt_toNat (by omega), byt_toNat (by omega), byt_toNat (by omega), byt_toNat (by omega)]
        exact dec_4 (by omega) hc (by omega)
/-- What is found is a character, whose encoding stands there. -/
theorem hd_some {l : List UInt8} {r k : Nat} (h : hd l = (r, k)) (hk : k ≠ 0) : chr r = true ∧ k ≤ l.length ∧ enc r = l.take k ∧ (enc r).length = k := by
  obtain ⟨h1, h2, h3⟩ := dec_cases (nth_lt l 0) (nth_lt l 1) (nth_lt l 2) (nth_lt l 3) h hk
  refine ⟨h1, h2, ?_⟩
  unfold enc
  rcases h3 with ⟨rfl, g1, g2⟩ | ⟨rfl, g1, g2, g3, g4⟩ | ⟨rfl, g1, g2, g3, g4, g5⟩ | ⟨rfl, g1, g2, g3, g4, g5⟩
  · rw [if_pos g1, take1 h2, g2]; exact ⟨rfl, rfl⟩
  · rw [if_neg (by omega), if_pos g2, take2 h2, g3, g4]; exact ⟨rfl, rfl⟩
  · rw [if_neg (by omega), if_neg (by omega), if_pos g2, take3 h2, g3, g4, g5]; exact ⟨rfl, rfl⟩
  · rw [if_neg (by omega), if_neg (by omega), if_neg (by omega), take4 h2, g2, g3, g4, g5]; exact ⟨rfl, rfl⟩
theorem hd_zero {l : List UInt8} {r : Nat} (h : hd l = (r, 0)) : r = 0 := by
  unfold hd dec at h
  split at h
  · injection h with h1 _; exact h1.symm
  · next hn =>
    exfalso
    unfold Lib.decodeN at h
    repeat' split at h
    all_goals (injection h with h1 h2; omega)
theorem hd_nil : hd [] = (0, 0) := rfl
/-- What the first byte says: how many bytes, and its part of the number. -/
def lead (b : Nat) : Nat × Nat := if 240 ≤ b then (4, b % 8) else if 224 ≤ b then (3, b % 16) else if 192 ≤ b then (2, b % 32) else (1, b)
/-- The number that so many bytes behind the first add to. -/
def more (l : List UInt8) (r : Nat) : Nat → Nat
  | 0 => r
  | k + 1 => more l r k * 64 + nth l (k + 1) % 64
theorem lead_cases {l : List UInt8} {r k : Nat} (h : hd l = (r, k)) (hk : k ≠ 0) : (lead (nth l 0)).1 = k ∧ more l (lead (nth l 0)).2 (k - 1) = r := by
  obtain ⟨h1, h2, h3⟩ := dec_cases (nth_lt l 0) (nth_lt l 1) (nth_lt l 2) (nth_lt l 3) h hk
  rw [chr_iff] at h1
  unfold lead
  rcases h3 with ⟨rfl, g1, g2⟩ | ⟨rfl, g1, g2, g3, g4⟩ | ⟨rfl, g1, g2, g3, g4, g5⟩ | ⟨rfl, g1, g2, g3, g4, g5⟩
  · rw [if_neg (by omega), if_neg (by omega), if_neg (by omega)]; exact ⟨rfl, g2⟩
  · rw [if_neg (by omega), if_neg (by omega), if_pos (by omega)]
    refine ⟨rfl, ?_⟩
    show nth l 0 % 32 * 64 + nth l 1 % 64 = r
    omega
  · rw [if_neg (by omega), if_pos (by omega)]
    refine ⟨rfl, ?_⟩
    show (nth l 0 % 16 * 64 + nth l 1 % 64) * 64 + nth l 2 % 64 = r
    omega
  · rw [if_pos (by omega)]
    refine ⟨rfl, ?_⟩
    show ((nth l 0 % 8 * 64 + nth l 1 % 64) * 64 + nth l 2 % 64) * 64 + nth l 3 % 64 = r
    omega
/-- The reference's way. -/
theorem hd_ref (l : List UInt8) {k r : Nat} (hk : (lead (nth l 0)).1 = k) (hr : more l (lead (nth l 0)).2 (k - 1) = r) :
    hd l = if k ≤ l.length ∧ chr r = true ∧ enc r = l.take k then (r, k) else (0, 0) := by
  split
  · next h =>
    obtain ⟨h1, h2, h3⟩ := h
    have := hd_enc h2 (l.drop k)
    rw [h3, List.take_append_drop, List.length_take, Nat.min_eq_left h1] at this
    exact this
  · next h =>
    obtain ⟨r', k', e⟩ : ∃ r' k', hd l = (r', k') := ⟨_, _, rfl⟩
    by_cases h0 : k' = 0
    · subst h0; rw [e, hd_zero e]
    · obtain ⟨g1, g2⟩ := lead_cases e h0
      obtain ⟨g3, g4, g5, _⟩ := hd_some e h0
      rw [hk] at g1
      subst g1
      rw [hr] at g2
      subst g2
      exact absurd ⟨g4, g3, g5⟩ h
theorem lead_len (b : Nat) : 1 ≤ (lead b).1 ∧ (lead b).1 ≤ 4 := by 
  unfold lead
  repeat' split
  all_goals (constructor <;> simp)
end Go.Proofs.YtiodnncpgdiejaaDoor.Utf
