/-
  Contracts of package utf: slices by characters; the law's walk: UtfSlices.
-/
import Derived.Test.YtagnagofdokjcaaUtfE
namespace Go.Proofs.Ytagnagofdokjcaa.Utf
open Go.RowKit
set_option linter.unusedVariables false
set_option linter.unusedSimpArgs false

theorem off_succ (l : List UInt8) (k : Nat) : off l (k + 1) = off l k + (hd (l.drop (off l k))).2 := rfl
theorem chAt_off {s : ByteArray} (h : vld s = true) {k : Nat} (hk : k < nch s.data.toList) : chAt s (off s.data.toList k : Nat) = hd (s.data.toList.drop (off s.data.toList k)) :=
  chAt_in (off_lt h hk).1
theorem off_mono (l : List UInt8) {a b : Nat} (h : a ≤ b) : off l a ≤ off l b := by
  obtain ⟨c, rfl⟩ : ∃ c, b = a + c := ⟨b - a, by omega⟩
  rw [off_add]; omega
theorem ext_list (s : ByteArray) {p q : Nat} : (s.extract p q).data.toList = (s.data.toList.drop p).take (q - p) := Lib.extract_data s p q
/-- Three slices that follow one another. -/
theorem three (s : ByteArray) {a b : Nat} (h : Lib.validD s.data.toList = true) (hab : a ≤ b) (hb : b ≤ nch s.data.toList) :
    s.extract (off s.data.toList 0) (off s.data.toList a) ++ s.extract (off s.data.toList a) (off s.data.toList b) ++ s.extract (off s.data.toList b) (off s.data.toList (nch s.data.toList)) = s := by
  apply ba_ext
  rw [Joins.data_append, Joins.data_append, ext_list, ext_list, ext_list, off_all h]
  have o1 := off_mono s.data.toList hab
  have o2 := off_le s.data.toList b
  generalize off s.data.toList a = p at *
  generalize off s.data.toList b = q at *
  generalize s.data.toList = l at *
  show (l.drop 0).take (p - 0) ++ (l.drop p).take (q - p) ++ (l.drop q).take (l.length - q) = l
  rw [List.drop_zero, Nat.sub_zero, List.take_of_length_le (l := l.drop q) (by rw [List.length_drop]; omega)]
  have e : l.take p ++ (l.drop p).take (q - p) = l.take q := by rw [← List.take_add, Nat.add_sub_cancel' o1]
  rw [e, List.take_append_drop]
theorem mid_vld (s : ByteArray) {a b : Nat} (h : Lib.validD s.data.toList = true) (hab : a ≤ b) (hb : b ≤ nch s.data.toList) :
    vld (s.extract (off s.data.toList a) (off s.data.toList b)) = true ∧ nch (s.extract (off s.data.toList a) (off s.data.toList b)).data.toList = b - a := by
  unfold vld
  rw [ext_list]
  have e : off s.data.toList b = off s.data.toList a + off (s.data.toList.drop (off s.data.toList a)) (b - a) := by rw [← off_add, Nat.add_sub_cancel' hab]
  rw [e, Nat.add_sub_cancel_left]
  obtain ⟨h1, h2⟩ := off_rest h (Nat.le_trans hab hb)
  exact off_take h1 (by rw [h2]; omega)
end Go.Proofs.Ytagnagofdokjcaa.Utf
