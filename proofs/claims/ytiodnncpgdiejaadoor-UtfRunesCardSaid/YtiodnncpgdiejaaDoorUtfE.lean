/-
  Contracts of package utf: valid strings, characters counted.
-/
import Derived.Test.YtiodnncpgdiejaaDoorUtfD
import Derived.Test.YtiodnncpgdiejaaDoorUtfMath2
import Derived.Test.YtiodnncpgdiejaaDoorShelf2
namespace Go.Proofs.YtiodnncpgdiejaaDoor.Utf
open Go.RowKit
set_option linter.unusedVariables false
set_option linter.unusedSimpArgs false

def vld (s : ByteArray) : Bool := Lib.validD s.data.toList
theorem valid_any (s : ByteArray) (w : World) (hT : Tabs w) (hs : s.size ≤ 4611686018427387904) : Calls Tryd.prog 15 #[.string s] w fun e w' => e = .returned (.bool (vld s)) ∧ Below w.heap.size w w' := by
  have hc : Calls Tryd.prog 29 #[.string s] w fun e w' => e = .returned (.bool (vld s)) ∧ Below w.heap.size w w' := Any.utf8_ValidString Tryd.hand196 s w (by omega) hT
  have HC := Lib.hid hc
  clear hc hT
  go_enter Tryd.func15, Tryd.ntmps15
  go_wp2_with (go_at_call 29; (with_reducible refine HC.out.mono ?_); rintro e w1 ⟨rfl, hb⟩)
  go_ret
  exact ⟨rfl, hb⟩
theorem valid_is {s : ByteArray} {w : World} {b : Bool} (h : Hid (vld s = b)) (hT : Tabs w) (hs : s.size ≤ 4611686018427387904) : Calls Tryd.prog 15 #[.string s] w fun e w' => e = .returned (.bool b) ∧ Below w.heap.size w w' := by
  have := valid_any s w hT hs; rwa [h.out] at this
theorem count_any (s : ByteArray) (w : World) (hs : s.size ≤ 4611686018427387904) : Calls Tryd.prog 22 #[.string s] w fun e w' => e = .returned (.int .i64 (nch s.data.toList)) ∧ Below w.heap.size w w' :=
  (Tryd.utf8_RuneCountInString s w (by omega)).mono fun _ _ ⟨he, pos, hw⟩ => ⟨by rw [he]; rfl, by rw [hw]; exact (Below.refl _ _).alloc (Nat.le_refl _) _⟩
/-- The number of characters, and its error. -/
def lnN (s : ByteArray) : Nat := if vld s = true then nch s.data.toList else 0
def lnE (s : ByteArray) : Int := if vld s = true then 0 else 5
theorem one_vld {r : Nat} (hc : chr r = true) : vld (encS r) = true ∧ lnN (encS r) = 1 ∧ lnE (encS r) = 0 := by
  obtain ⟨h1, h2⟩ := one_char hc
  have h : vld (encS r) = true := h1
  exact ⟨h, (if_pos h).trans h2, if_pos h⟩
theorem encS_size (r : Nat) : (encS r).size = (enc r).length := by unfold encS; simp [ByteArray.size]
theorem back_at {r : Nat} (hc : chr r = true) (a b : ByteArray) : chAt (a ++ encS r ++ b) (a.size : Int) = (r, (enc r).length) := by
  have hl : (a ++ encS r ++ b).data.toList = a.data.toList ++ (enc r ++ b.data.toList) := by
    rw [Joins.data_append, Joins.data_append, List.append_assoc]; rfl
  have h1 : 1 ≤ (enc r).length := by
    rw [enc_len]
    repeat' split
    all_goals omega
  have hlt : a.size < (a ++ encS r ++ b).size := by rw [ByteArray.size_append, ByteArray.size_append, encS_size]; omega
  rw [chAt_in hlt, hl]
  have hd' : (a.data.toList ++ (enc r ++ b.data.toList)).drop a.size = enc r ++ b.data.toList := List.drop_left
  rw [hd', hd_enc hc]
theorem decode_is {s : ByteArray} {a : Int} {w : World} {r k : Nat} (h : Hid (chAt s a = (r, k))) (hT : Tabs w) (hs : s.size ≤ 9223372036854775807) (ha : -9223372036854775808 ≤ a ∧ a ≤ 9223372036854775807) : Calls Tryd.prog 13 #[.string s, .int .i64 a] w fun e w' => e = .returned (.tuple #[.int .i64 r, .int .i64 k]) ∧ Below w.heap.size w w' := by
  have := decode_any s a w hT hs ha; rwa [h.out] at this
end Go.Proofs.YtiodnncpgdiejaaDoor.Utf
