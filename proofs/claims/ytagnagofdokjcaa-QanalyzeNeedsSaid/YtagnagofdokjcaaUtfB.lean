/-
  Contracts of package utf and its reference: characters at offsets.
-/
import Derived.Test.YtagnagofdokjcaaUtfA
import Derived.Lib.RuneCountTail
import Derived.Shelf.Unicode.DecodeSlow
namespace Go.Proofs.Ytagnagofdokjcaa.Utf
open Go.RowKit
set_option linter.unusedVariables false
set_option linter.unusedSimpArgs false

theorem size_list (s : ByteArray) : s.data.toList.length = s.size := rfl
theorem ext_drop (s : ByteArray) (k : Nat) : (s.extract k s.size).data.toList = s.data.toList.drop k := by
  rw [Lib.extract_data, List.take_of_length_le]
  rw [List.length_drop, size_list]; omega
theorem decode_list (s : ByteArray) : Utf8.decode s 0 = Lib.decodeN s.data.toList.length (nth s.data.toList 0) (nth s.data.toList 1) (nth s.data.toList 2) (nth s.data.toList 3) := by
  unfold nth
  rw [Lib.decode_at, Lib.getD_get!', Lib.getD_get!', Lib.getD_get!', Lib.getD_get!']
  rfl
/-- What the library says of a string that is not empty, against the character that it begins with. -/
theorem decodeGo_hd {s : ByteArray} {l : List UInt8} (hl : s.data.toList = l) (hne : l ≠ []) :
    ((Lib.decodeGo s).1 = 65533 ∧ (Lib.decodeGo s).2 = 1 ∧ hd l = (0, 0)) ∨ (¬ ((Lib.decodeGo s).1 = 65533 ∧ (Lib.decodeGo s).2 < 3) ∧ Lib.decodeGo s = hd l) := by
  have hlen : 0 < l.length := List.length_pos_iff.2 hne
  have hz : ¬ s.size = 0 := by rw [← size_list, hl]; omega
  have e : Lib.decodeGo s = Lib.decodeN l.length (nth l 0) (nth l 1) (nth l 2) (nth l 3) := by
    unfold Lib.decodeGo
    rw [if_neg hz, decode_list, hl]
  by_cases hb : Lib.decodeN l.length (nth l 0) (nth l 1) (nth l 2) (nth l 3) = (65533, 1)
  · left
    rw [e, hb]
    exact ⟨rfl, rfl, by unfold hd dec; rw [if_pos (.inr hb)]⟩
  · right
    have eh : hd l = Lib.decodeN l.length (nth l 0) (nth l 1) (nth l 2) (nth l 3) := by unfold hd dec; rw [if_neg (by rintro (h | h); omega; exact hb h)]
    rw [e, ← eh]
    refine ⟨?_, rfl⟩
    rintro ⟨g1, g2⟩
    obtain ⟨r, k, hrk⟩ : ∃ r k, hd l = (r, k) := ⟨_, _, rfl⟩
    rw [hrk] at g1 g2
    have hk : k ≠ 0 := by
      intro h0; subst h0
      rw [hd_zero hrk] at g1; cases g1
    obtain ⟨_, _, h3⟩ := dec_cases (nth_lt l 0) (nth_lt l 1) (nth_lt l 2) (nth_lt l 3) hrk hk
    have g1' : r = 65533 := g1
    have g2' : k < 3 := g2
    omega
theorem decodeGo_le {s : ByteArray} : (Lib.decodeGo s).1 ≤ 1114111 ∧ (Lib.decodeGo s).2 ≤ 4 := by
  unfold Lib.decodeGo
  split
  · exact ⟨by decide, by decide⟩
  · rw [decode_list]
    unfold Lib.decodeN
    have h0 := nth_lt s.data.toList 0; have h1 := nth_lt s.data.toList 1; have h2 := nth_lt s.data.toList 2; have h3 := nth_lt s.data.toList 3
    repeat' split
    all_goals (constructor <;> simp only [] <;> omega)
/-- The character at an offset, and its length; (0, 0) if there is none. -/
def chAt (s : ByteArray) (at_ : Int) : Nat × Nat := if 0 ≤ at_ ∧ at_ < s.size then hd (s.data.toList.drop at_.toNat) else (0, 0)
theorem chAt_in {s : ByteArray} {k : Nat} (h : k < s.size) : chAt s (k : Int) = hd (s.data.toList.drop k) := by
  unfold chAt; rw [if_pos ⟨by omega, by omega⟩, Int.toNat_natCast]
theorem chAt_out {s : ByteArray} {a : Int} (h : a < 0 ∨ (s.size : Int) ≤ a) : chAt s a = (0, 0) := by
  unfold chAt; rw [if_neg (by omega)]
end Go.Proofs.Ytagnagofdokjcaa.Utf
