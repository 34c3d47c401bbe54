/-
  Package span, plain: what the reference's Between makes of the bytes that are kept is the normal form of their runs.
-/
import Derived.Test.YtdgoblapmjpcaaaSpJ
namespace Go.Proofs.Ytdgoblapmjpcaaa.Sp
open Go.RowKit
set_option linter.unusedVariables false
set_option linter.unusedSimpArgs false

/-- Byte by byte: κ is the other offset of a byte, below nought where it is not kept; m bytes are left. -/
def bt (κ : Nat → Int) (tx : ByteArray) : Nat → Nat → Int → Int → List Ed
  | 0, i, fr, to => ne1 tx fr to ⟨i, tx.size, 0⟩
  | m + 1, i, fr, to => if κ i < 0 then bt κ tx m (i + 1) fr to else ne1 tx fr to ⟨i, κ i, 0⟩ ++ bt κ tx m (i + 1) (i + 1) (κ i + 1)
theorem bt_succ (κ : Nat → Int) (tx : ByteArray) (m i : Nat) (fr to : Int) : bt κ tx (m + 1) i fr to = if κ i < 0 then bt κ tx m (i + 1) fr to else ne1 tx fr to ⟨i, κ i, 0⟩ ++ bt κ tx m (i + 1) (i + 1) (κ i + 1) := rfl
theorem ne1_c {tx : ByteArray} {fr to a b c c' : Int} : ne1 tx fr to ⟨a, b, c⟩ = ne1 tx fr to ⟨a, b, c'⟩ := rfl
theorem ne1_same {tx : ByteArray} {a b c : Int} : ne1 tx a b ⟨a, b, c⟩ = [] := ne1_no (by intro h; rcases h with h | h <;> simp only at h <;> omega)
theorem bt_skip {κ : Nat → Int} {tx : ByteArray} : ∀ (s m i : Nat) (fr to : Int), (∀ j, i ≤ j → j < i + s → κ j < 0) → bt κ tx (m + s) i fr to = bt κ tx m (i + s) fr to := by
  intro s
  induction s with
  | zero => intro m i fr to _; rfl
  | succ s ih =>
    intro m i fr to h
    rw [show m + (s + 1) = (m + s) + 1 by omega, bt_succ, if_pos (h i (Nat.le_refl _) (by omega)), ih m (i + 1) fr to (fun j h1 h2 => h j (by omega) (by omega)), show i + 1 + s = i + (s + 1) by omega]
theorem bt_run {κ : Nat → Int} {tx : ByteArray} : ∀ (c m i : Nat) (b : Int), 0 ≤ b → (∀ j, j < c → κ (i + j) = b + j) → bt κ tx (m + c) i i b = bt κ tx m (i + c) ((i + c : Nat) : Int) (b + c) := by
  intro c
  induction c with
  | zero => intro m i b _ _; simp
  | succ c ih =>
    intro m i b hb h
    have h0 := h 0 (by omega)
    simp only [Nat.add_zero] at h0
    rw [show ((0 : Nat) : Int) = 0 from rfl, Int.add_zero] at h0
    rw [show m + (c + 1) = (m + c) + 1 by omega, bt_succ, h0, if_neg (by omega), ne1_same, List.nil_append]
    have e := ih m (i + 1) (b + 1) (by omega) (fun j hj => by
      have := h (j + 1) (by omega)
      rw [show i + (j + 1) = i + 1 + j by omega] at this
      rw [this]; omega)
    rw [show ((i + 1 : Nat) : Int) = (i : Int) + 1 by omega] at e
    rw [e, show i + 1 + c = i + (c + 1) by omega, show b + 1 + (c : Int) = b + ((c + 1 : Nat) : Int) by omega]
theorem bt_take {κ : Nat → Int} {tx : ByteArray} {c m i : Nat} {b fr to : Int} (hb : 0 ≤ b) (hc : 0 < c) (h : ∀ j, j < c → κ (i + j) = b + j) : bt κ tx (m + c) i fr to = ne1 tx fr to ⟨i, b, c⟩ ++ bt κ tx m (i + c) ((i + c : Nat) : Int) (b + c) := by
  obtain ⟨c, rfl⟩ : ∃ d, c = d + 1 := ⟨c - 1, by omega⟩
  have h0 := h 0 (by omega)
  simp only [Nat.add_zero] at h0
  rw [show ((0 : Nat) : Int) = 0 from rfl, Int.add_zero] at h0
  rw [show m + (c + 1) = (m + c) + 1 by omega, bt_succ, h0, if_neg (by omega), ne1_c (c' := ((c + 1 : Nat) : Int))]
  have e := bt_run (κ := κ) (tx := tx) c m (i + 1) (b + 1) (by omega) (fun j hj => by
    have := h (j + 1) (by omega)
    rw [show i + (j + 1) = i + 1 + j by omega] at this
    rw [this]; omega)
  rw [show ((i + 1 : Nat) : Int) = (i : Int) + 1 by omega] at e
  rw [e, show i + 1 + c = i + (c + 1) by omega, show b + 1 + (c : Int) = b + ((c + 1 : Nat) : Int) by omega]
/-- The runs say which bytes are kept, from i on. -/
def KR (κ : Nat → Int) (n : Nat) : Nat → List Ru → Prop
  | i, [] => i ≤ n ∧ ∀ j, i ≤ j → j < n → κ j < 0
  | i, r :: R => if r.c = 0 then KR κ n i R else ∃ a c : Nat, r.a = a ∧ r.c = c ∧ 0 ≤ r.b ∧ i ≤ a ∧ a + c ≤ n ∧ (∀ j, i ≤ j → j < a → κ j < 0) ∧ (∀ j, j < c → κ (a + j) = r.b + j) ∧ KR κ n (a + c) R
theorem KR.le {κ : Nat → Int} {n : Nat} : ∀ {R : List Ru} {i : Nat}, KR κ n i R → i ≤ n := by
  intro R
  induction R with
  | nil => intro i h; exact h.1
  | cons r R ih =>
    intro i h
    unfold KR at h
    split at h
    · exact ih h
    · obtain ⟨a, c, _, _, _, h1, h2, _⟩ := h; omega
theorem bt_nm {κ : Nat → Int} {tx : ByteArray} {n : Nat} : ∀ (R : List Ru) (i : Nat) (fr to : Int), KR κ n i R → bt κ tx (n - i) i fr to = nm tx n fr to R := by
  intro R
  induction R with
  | nil =>
    intro i fr to h
    obtain ⟨h1, h2⟩ := h
    have e := bt_skip (κ := κ) (tx := tx) (n - i) 0 i fr to (fun j h3 h4 => h2 j h3 (by omega))
    rw [Nat.zero_add] at e
    rw [e, show i + (n - i) = n by omega]
    rfl
  | cons r R ih =>
    intro i fr to h
    unfold KR at h
    unfold nm
    by_cases hc : r.c = 0
    · rw [if_pos hc] at h ⊢
      exact ih i fr to h
    · rw [if_neg hc] at h ⊢
      obtain ⟨a, c, ha, hcc, hb, h1, h2, h3, h4, h5⟩ := h
      have e := bt_skip (κ := κ) (tx := tx) (a - i) (n - a) i fr to (fun j k1 k2 => h3 j k1 (by omega))
      rw [show n - a + (a - i) = n - i by omega, show i + (a - i) = a by omega] at e
      have e2 := bt_take (κ := κ) (tx := tx) (c := c) (m := n - (a + c)) (i := a) (b := r.b) (fr := fr) (to := to) hb (by omega) h4
      rw [show n - (a + c) + c = n - a by omega] at e2
      rw [e, e2, ih _ _ _ h5]
      obtain ⟨ra, rb, rcc⟩ := r
      simp only at ha hcc hb h4 ⊢
      subst ha hcc
      rw [show ((a + c : Nat) : Int) = (a : Int) + (c : Int) by omega]
end Go.Proofs.Ytdgoblapmjpcaaa.Sp
