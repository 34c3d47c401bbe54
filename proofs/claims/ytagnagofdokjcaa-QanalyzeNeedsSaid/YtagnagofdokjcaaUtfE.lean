/-
  Contracts of package utf: valid strings, characters counted.
-/
import Derived.Test.YtagnagofdokjcaaUtfD
import Derived.Test.YtagnagofdokjcaaUtfMath2
import Derived.Test.YtagnagofdokjcaaShelf2
namespace Go.Proofs.Ytagnagofdokjcaa.Utf
open Go.RowKit
set_option linter.unusedVariables false
set_option linter.unusedSimpArgs false

def vld (s : ByteArray) : Bool := Lib.validD s.data.toList
/-- The number of characters, and its error. -/
def lnN (s : ByteArray) : Nat := if vld s = true then nch s.data.toList else 0
def lnE (s : ByteArray) : Int := if vld s = true then 0 else 5
theorem one_vld {r : Nat} (hc : chr r = true) : vld (encS r) = true ∧ lnN (encS r) = 1 ∧ lnE (encS r) = 0 := by
  obtain ⟨h1, h2⟩ := one_char hc
  have h : vld (encS r) = true := h1
  exact ⟨h, (if_pos h).trans h2, if_pos h⟩
theorem encS_size (r : Nat) : (encS r).size = (enc r).length := by unfold encS; simp [ByteArray.size]
theorem back_at {r : Nat} (hc : chr r = true) (a b : ByteArray) : chAt (a ++ encS r ++ b) (a.size : Int) = (r, (enc r).length) := by
  have hl : (a ++ encS r ++ b).data.toList = a.data.toList ++ (enc r ++ b.data.toList) := by
    rw [Joins.data_append, Joins.data_append, List.append_assoc]; rfl
  have h1 : 1 ≤ (enc r).length := by
    rw [enc_len]
    repeat' split
    all_goals omega
  have hlt : a.size < (a ++ encS r ++ b).size := by rw [ByteArray.size_append, ByteArray.size_append, encS_size]; omega
  rw [chAt_in hlt, hl]
  have hd' : (a.data.toList ++ (enc r ++ b.data.toList)).drop a.size = enc r ++ b.data.toList := List.drop_left
  rw [hd', hd_enc hc]
end Go.Proofs.Ytagnagofdokjcaa.Utf
