/-
  Contracts of package path and its reference: equal paths.
-/
import Derived.Test.YtagnagofdokjcaaPsA
import Derived.BigQuiet
import Derived.OwnWalk
namespace Go.Proofs.Ytagnagofdokjcaa.Ps
open Go.RowKit
set_option linter.unusedVariables false
set_option linter.unusedSimpArgs false
open RO

/-- Are two steps the same? -/
def stE (d e : St) : Bool := d.b == e.b && (d.s.toList == e.s.toList && d.x == e.x)
def eqL : List St → List St → Bool
  | [], [] => true
  | d :: l, e :: m => stE d e && eqL l m
  | _, _ => false
theorem bel_dn {B : Nat} {w w' : World} (h : Below B w w') (n : Nat) : Below B w (w'.drewN n) := h.trans ⟨rfl, rfl, rfl, Nat.le_refl _, fun _ _ => rfl⟩
theorem eqL_len {L M : List St} (h : L.length ≠ M.length) : eqL L M = false := by
  induction L generalizing M with
  | nil => cases M with
    | nil => exact absurd rfl h
    | cons e m => rfl
  | cons d l ih => cases M with
    | nil => rfl
    | cons e m =>
      unfold eqL
      rw [ih (fun h2 => h (by rw [List.length_cons, List.length_cons, h2])), Bool.and_false]
theorem eqL_step {L M : List St} {k : Nat} {d e : St} (h1 : L[k]? = some d) (h2 : M[k]? = some e) : eqL (L.drop k) (M.drop k) = (stE d e && eqL (L.drop (k + 1)) (M.drop (k + 1))) := by
  rw [drop_st h1, drop_st h2]; rfl
theorem eqL_end {L M : List St} {k : Nat} (h1 : L.length ≤ k) (h2 : M.length ≤ k) : eqL (L.drop k) (M.drop k) = true := by
  rw [List.drop_eq_nil_of_le h1, List.drop_eq_nil_of_le h2]; rfl
theorem tl_inj {a b : ByteArray} : a.toList = b.toList ↔ a = b := by
  rw [ByteArray.toList_eq, ByteArray.toList_eq]
  constructor
  · intro h
    obtain ⟨⟨a⟩⟩ := a
    obtain ⟨⟨b⟩⟩ := b
    simpa using h
  · intro h; rw [h]
theorem stE_iff {d e : St} : stE d e = true ↔ d = e := by
  obtain ⟨a, b, c⟩ := d
  obtain ⟨a', b', c'⟩ := e
  unfold stE
  simp only [Bool.and_eq_true, beq_iff_eq, St.mk.injEq, tl_inj]
theorem stE_no {d e : St} (h : stE d e = false) : (d.b == e.b) = false ∨ (d.b = e.b ∧ (d.s.toList == e.s.toList) = false) ∨ (d.b = e.b ∧ d.s = e.s ∧ (d.x == e.x) = false) := by
  unfold stE at h
  cases h1 : (d.b == e.b) with
  | false => exact .inl rfl
  | true =>
    refine .inr ?_
    rw [h1, Bool.true_and] at h
    have h1 := beq_iff_eq.1 h1
    cases h2 : (d.s.toList == e.s.toList) with
    | false => exact .inl ⟨h1, rfl⟩
    | true =>
      rw [h2, Bool.true_and] at h
      exact .inr ⟨h1, tl_inj.1 (beq_iff_eq.1 h2), h⟩
theorem eqL_iff {L M : List St} : eqL L M = true ↔ L = M := by
  induction L generalizing M with
  | nil => cases M with
    | nil => exact ⟨fun _ => rfl, fun _ => rfl⟩
    | cons e m => exact ⟨fun h => (by cases h), fun h => (by cases h)⟩
  | cons d l ih => cases M with
    | nil => exact ⟨fun h => (by cases h), fun h => (by cases h)⟩
    | cons e m =>
      show (stE d e && eqL l m) = true ↔ _
      rw [Bool.and_eq_true, stE_iff, ih, List.cons.injEq]
/-- The cells of a list at a place, in any world behind. -/
theorem Ss.cellsAt {w : World} {a : Option Addr} {n cap : Nat} {L : List St} (h : Ss w w.heap.size (.slice a n cap) L) (hn : L.length = n) : ∀ (w' : World), Below w.heap.size w w' → ∀ k, k < n → ∃ g o d, a = some ⟨g, o, none⟩ ∧ L[k]? = some d ∧ w'.cell? ⟨g, o + k * 3, none⟩ = some (.bool d.b) ∧ w'.cell? ⟨g, o + k * 3 + 1, none⟩ = some (.string d.s) ∧ w'.cell? ⟨g, o + k * 3 + 2, none⟩ = some (.int .i64 d.x) ∧ g < w.heap.size := fun w' hb k hk => by
  obtain ⟨g, o, cap', hvv, hg, _, _, hcell⟩ := Ss.at_ h hn (by omega)
  injection hvv with h1 h2 h3
  obtain ⟨d, hd⟩ := st_in hn hk
  obtain ⟨e0, e1, e2⟩ := hcell k d hd
  exact ⟨g, o, d, h1, hd, (hb.cell (p := ⟨g, o + k * 3, none⟩) hg).trans e0, (hb.cell (p := ⟨g, o + k * 3 + 1, none⟩) hg).trans e1, (hb.cell (p := ⟨g, o + k * 3 + 2, none⟩) hg).trans e2, hg⟩
end Go.Proofs.Ytagnagofdokjcaa.Ps
