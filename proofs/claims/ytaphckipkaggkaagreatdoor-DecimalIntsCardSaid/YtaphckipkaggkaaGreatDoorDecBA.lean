/-
  Package decimal, plain: which number any string says.
-/
import Derived.Test.YtaphckipkaggkaaGreatDoorDecC
namespace Go.Proofs.YtaphckipkaggkaaGreatDoor.Dec
open Go.RowKit
set_option linter.unusedVariables false
set_option linter.unusedSimpArgs false
open Go.Proofs.YtaphckipkaggkaaGreatDoor.Dig

def dlL (l : List UInt8) : Nat := (l.takeWhile isd).length
theorem dl_list (s : ByteArray) : dl s = dlL s.data.toList := rfl
theorem dlL_cons (a : UInt8) (t : List UInt8) : dlL (a :: t) = if isd a = true then dlL t + 1 else 0 := by
  unfold dlL
  rw [List.takeWhile_cons]
  split <;> simp_all
theorem dlL_le (l : List UInt8) : dlL l ≤ l.length := by
  induction l with
  | nil => exact Nat.le_refl _
  | cons a t ih => rw [dlL_cons]; split <;> simp <;> omega
theorem dlL_digs : ∀ (l : List UInt8), digs (l.take (dlL l)) = true := by
  intro l
  induction l with
  | nil => rfl
  | cons a t ih =>
    rw [dlL_cons]
    split
    · rename_i ha
      rw [List.take_succ_cons]
      unfold digs at ih ⊢
      rw [List.all_cons, ha, ih]; rfl
    · rfl
theorem dlL_stop : ∀ (l : List UInt8) (c : UInt8) (t : List UInt8), l.drop (dlL l) = c :: t → isd c = false := by
  intro l
  induction l with
  | nil => intro c t h; cases h
  | cons a l ih =>
    intro c t h
    rw [dlL_cons] at h
    by_cases ha : isd a = true
    · rw [if_pos ha] at h
      exact ih c t (by simpa using h)
    · rw [if_neg ha] at h
      simp at h
      rw [← h.1]
      simpa using ha
theorem dlL_all {l : List UInt8} : dlL l = l.length ↔ digs l = true := by
  constructor
  · intro h
    have := dlL_digs l
    rw [h, List.take_length] at this
    exact this
  · intro h
    induction l with
    | nil => rfl
    | cons a t ih =>
      unfold digs at h
      rw [List.all_cons, Bool.and_eq_true] at h
      rw [dlL_cons, if_pos h.1, ih h.2]; rfl
/-- The digits of an exponent, and whether they are none. -/
def qx (l : List UInt8) : List UInt8 := if (l.drop 1).head? = some 45 ∨ (l.drop 1).head? = some 43 then l.drop 2 else l.drop 1
def expo (C : Nat) (l : List UInt8) : Option Int :=
  if l = [] then some 0
  else if l.head? = some 101 ∨ l.head? = some 69 then
    if qx l = [] ∨ digs (qx l) = false then none
    else some (if (l.drop 1).head? = some 45 then -((min (val (qx l)) C : Nat) : Int) else ((min (val (qx l)) C : Nat) : Int))
  else none
def l1 (l : List UInt8) : List UInt8 := if l.head? = some 45 then l.drop 1 else l
def ng (l : List UInt8) : Bool := decide (l.head? = some 45)
/-- Sign, digits and exponent of a string; the exponent's own number counts as C if it is more. -/
def pp (C : Nat) (l : List UInt8) : Option (Bool × List UInt8 × Int) :=
  if dlL (l1 l) = 0 ∨ (1 < dlL (l1 l) ∧ (l1 l).head? = some 48) then none
  else if ((l1 l).drop (dlL (l1 l))).head? = some 46 then
    if dlL ((l1 l).drop (dlL (l1 l) + 1)) = 0 then none
    else match expo C ((l1 l).drop (dlL (l1 l) + 1 + dlL ((l1 l).drop (dlL (l1 l) + 1)))) with
      | none => none
      | some x => some (ng l, (l1 l).take (dlL (l1 l)) ++ ((l1 l).drop (dlL (l1 l) + 1)).take (dlL ((l1 l).drop (dlL (l1 l) + 1))), x - dlL ((l1 l).drop (dlL (l1 l) + 1)))
  else match expo C ((l1 l).drop (dlL (l1 l))) with
    | none => none
    | some x => some (ng l, (l1 l).take (dlL (l1 l)), x)
/-- The number that a string says, and the error. -/
def prs (C : Nat) (l : List UInt8) : Bool × Nat × Int × Int :=
  match pp C l with
  | none => (false, 0, 0, 3)
  | some (g, ds, x) => nrm g (val ds) x
theorem zr_le {n : Nat} (h : 0 < n) : zr n ≤ (num n).length := by
  have := len_cut h
  omega
theorem nrm_far {g : Bool} {n : Nat} {x : Int} (hl : (num n).length ≤ 100000) (hx : 10000000 < x ∨ x < -10000000) : nrm g n x = (false, 0, 0, if n = 0 then 0 else 2) := by
  rcases Nat.eq_zero_or_pos n with h0 | h0
  · rw [h0, nrm_zero]; rfl
  · have hz := zr_le h0
    rw [nrm_no h0, if_neg (by omega)]
    unfold fits
    exact decide_eq_false (by omega)
theorem expo_caps (l : List UInt8) : (expo 1099511627776 l = none ∧ expo 1000000000 l = none) ∨ (∃ x, expo 1099511627776 l = some x ∧ expo 1000000000 l = some x ∧ -1000000000 ≤ x ∧ x ≤ 1000000000) ∨ (∃ x y, expo 1099511627776 l = some x ∧ expo 1000000000 l = some y ∧ ((1000000000 ≤ x ∧ 1000000000 ≤ y) ∨ (x ≤ -1000000000 ∧ y ≤ -1000000000)) ∧ -1099511627776 ≤ x ∧ x ≤ 1099511627776 ∧ -1099511627776 ≤ y ∧ y ≤ 1099511627776) := by
  unfold expo
  by_cases h0 : l = []
  · rw [if_pos h0, if_pos h0]; exact .inr (.inl ⟨0, rfl, rfl, by omega, by omega⟩)
  · rw [if_neg h0, if_neg h0]
    by_cases h1 : l.head? = some 101 ∨ l.head? = some 69
    · rw [if_pos h1, if_pos h1]
      by_cases h2 : qx l = [] ∨ digs (qx l) = false
      · rw [if_pos h2, if_pos h2]; exact .inl ⟨rfl, rfl⟩
      · rw [if_neg h2, if_neg h2]
        by_cases h4 : val (qx l) ≤ 1000000000
        · refine .inr (.inl ⟨_, rfl, ?_, ?_, ?_⟩)
          · rw [Nat.min_eq_left h4, Nat.min_eq_left (Nat.le_trans h4 (by omega))]
          · split <;> omega
          · split <;> omega
        · refine .inr (.inr ⟨_, _, rfl, rfl, ?_, ?_, ?_, ?_, ?_⟩)
          · split
            · exact .inr ⟨by omega, by omega⟩
            · exact .inl ⟨by omega, by omega⟩
          all_goals (split <;> omega)
    · rw [if_neg h1, if_neg h1]; exact .inl ⟨rfl, rfl⟩
theorem digs_app {a b : List UInt8} (ha : digs a = true) (hb : digs b = true) : digs (a ++ b) = true := by
  unfold digs at *
  rw [List.all_append, ha, hb]; rfl
/-- Both caps give the same number. -/
theorem prs_caps (l : List UInt8) (hl : l.length ≤ 100000) : prs 1099511627776 l = prs 1000000000 l := by
  unfold prs pp
  by_cases h0 : dlL (l1 l) = 0 ∨ (1 < dlL (l1 l) ∧ (l1 l).head? = some 48)
  · rw [if_pos h0, if_pos h0]
  · rw [if_neg h0, if_neg h0]
    have hl1 : (l1 l).length ≤ l.length := by unfold l1; split <;> simp
    have hvl : ∀ ds : List UInt8, digs ds = true → ds.length ≤ 100000 → (num (val ds)).length ≤ 100000 := fun ds hd h => Nat.le_trans (num_len.2 (val_lt hd)) h
    by_cases h1 : ((l1 l).drop (dlL (l1 l))).head? = some 46
    · rw [if_pos h1, if_pos h1]
      by_cases h2 : dlL ((l1 l).drop (dlL (l1 l) + 1)) = 0
      · rw [if_pos h2, if_pos h2]
      · rw [if_neg h2, if_neg h2]
        have e1 := dlL_le (l1 l)
        have e2 := dlL_le ((l1 l).drop (dlL (l1 l) + 1))
        rw [List.length_drop] at e2
        have hv := hvl ((l1 l).take (dlL (l1 l)) ++ ((l1 l).drop (dlL (l1 l) + 1)).take (dlL ((l1 l).drop (dlL (l1 l) + 1)))) (digs_app (dlL_digs _) (dlL_digs _)) (by rw [List.length_append, List.length_take, List.length_take, List.length_drop]; omega)
        rcases expo_caps ((l1 l).drop (dlL (l1 l) + 1 + dlL ((l1 l).drop (dlL (l1 l) + 1)))) with ⟨a, b⟩ | ⟨x, a, b, -, -⟩ | ⟨x, y, a, b, c, -⟩
        · rw [a, b]
        · rw [a, b]
        · rw [a, b]
          simp only []
          rw [nrm_far hv (by omega), nrm_far hv (by omega)]
    · rw [if_neg h1, if_neg h1]
      have e1 := dlL_le (l1 l)
      have hv := hvl ((l1 l).take (dlL (l1 l))) (dlL_digs _) (by rw [List.length_take]; omega)
      rcases expo_caps ((l1 l).drop (dlL (l1 l))) with ⟨a, b⟩ | ⟨x, a, b, -, -⟩ | ⟨x, y, a, b, c, -⟩
      · rw [a, b]
      · rw [a, b]
      · rw [a, b]
        simp only []
        rw [nrm_far hv (by omega), nrm_far hv (by omega)]
end Go.Proofs.YtaphckipkaggkaaGreatDoor.Dec
