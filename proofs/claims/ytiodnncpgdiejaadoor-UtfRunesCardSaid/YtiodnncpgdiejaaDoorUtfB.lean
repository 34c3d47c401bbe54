/-
  Contracts of package utf and its reference: characters at offsets.
-/
import Derived.Test.YtiodnncpgdiejaaDoorUtfA
import Derived.Lib.RuneCountTail
import Derived.Shelf.Unicode.DecodeSlow
namespace Go.Proofs.YtiodnncpgdiejaaDoor.Utf
open Go.RowKit
set_option linter.unusedVariables false
set_option linter.unusedSimpArgs false

/-- The library's two tables, as the call finds them. -/
def Tabs (w : World) : Prop := Lib.Utf8Tabs 0 1 w
theorem Tabs.below {w w' : World} (h : Tabs w) (hb : Below w.heap.size w w') : Tabs w' := Utf8Tabs_below h hb
theorem size_list (s : ByteArray) : s.data.toList.length = s.size := rfl
theorem ext_drop (s : ByteArray) (k : Nat) : (s.extract k s.size).data.toList = s.data.toList.drop k := by
  rw [Lib.extract_data, List.take_of_length_le]
  rw [List.length_drop, size_list]; omega
theorem decode_list (s : ByteArray) : Utf8.decode s 0 = Lib.decodeN s.data.toList.length (nth s.data.toList 0) (nth s.data.toList 1) (nth s.data.toList 2) (nth s.data.toList 3) := by
  unfold nth
  rw [Lib.decode_at, Lib.getD_get!', Lib.getD_get!', Lib.getD_get!', Lib.getD_get!']
  rfl
/-- What the library says of a string that is not empty, against the character that it begins with. -/
theorem decodeGo_hd {s : ByteArray} {l : List UInt8} (hl : s.data.toList = l) (hne : l ≠ []) :
    ((Lib.decodeGo s).1 = 65533 ∧ (Lib.decodeGo s).2 = 1 ∧ hd l = (0, 0)) ∨ (¬ ((Lib.decodeGo s).1 = 65533 ∧ (Lib.decodeGo s).2 < 3) ∧ Lib.decodeGo s = hd l) := by
  have hlen : 0 < l.length := List.length_pos_iff.2 hne
  have hz : ¬ s.size = 0 := by rw [← size_list, hl]; omega
  have e : Lib.decodeGo s = Lib.decodeN l.length (nth l 0) (nth l 1) (nth l 2) (nth l 3) := by
    unfold Lib.decodeGo
    rw [if_neg hz, decode_list, hl]
  by_cases hb : Lib.decodeN l.length (nth l 0) (nth l 1) (nth l 2) (nth l 3) = (65533, 1)
  · left
    rw [e, hb]
    exact ⟨rfl, rfl, by unfold hd dec; rw [if_pos (.inr hb)]⟩
  · right
    have eh : hd l = Lib.decodeN l.length (nth l 0) (nth l 1) (nth l 2) (nth l 3) := by unfold hd dec; rw [if_neg (by rintro (h | h); omega; exact hb h)]
    rw [e, ← eh]
    refine ⟨?_, rfl⟩
    rintro ⟨g1, g2⟩
    obtain ⟨r, k, hrk⟩ : ∃ r k, hd l = (r, k) := ⟨_, _, rfl⟩
    rw [hrk] at g1 g2
    have hk : k ≠ 0 := by
      intro h0; subst h0
      rw [hd_zero hrk] at g1; cases g1
    obtain ⟨_, _, h3⟩ := dec_cases (nth_lt l 0) (nth_lt l 1) (nth_lt l 2) (nth_lt l 3) hrk hk
    have g1' : r = 65533 := g1
    have g2' : k < 3 := g2
    omega
theorem decodeGo_le {s : ByteArray} : (Lib.decodeGo s).1 ≤ 1114111 ∧ (Lib.decodeGo s).2 ≤ 4 := by
  unfold Lib.decodeGo
  split
  · exact ⟨by decide, by decide⟩
  · rw [decode_list]
    unfold Lib.decodeN
    have h0 := nth_lt s.data.toList 0; have h1 := nth_lt s.data.toList 1; have h2 := nth_lt s.data.toList 2; have h3 := nth_lt s.data.toList 3
    repeat' split
    all_goals (constructor <;> simp only [] <;> omega)
/-- The character at an offset, and its length; (0, 0) if there is none. -/
def chAt (s : ByteArray) (at_ : Int) : Nat × Nat := if 0 ≤ at_ ∧ at_ < s.size then hd (s.data.toList.drop at_.toNat) else (0, 0)
theorem chAt_in {s : ByteArray} {k : Nat} (h : k < s.size) : chAt s (k : Int) = hd (s.data.toList.drop k) := by
  unfold chAt; rw [if_pos ⟨by omega, by omega⟩, Int.toNat_natCast]
theorem chAt_out {s : ByteArray} {a : Int} (h : a < 0 ∨ (s.size : Int) ≤ a) : chAt s a = (0, 0) := by
  unfold chAt; rw [if_neg (by omega)]
set_option maxHeartbeats 1000000 in
theorem decode_any (s : ByteArray) (a : Int) (w : World) (hT : Tabs w) (hs : s.size ≤ 9223372036854775807) (ha : -9223372036854775808 ≤ a ∧ a ≤ 9223372036854775807) : Calls Tryd.prog 13 #[.string s, .int .i64 a] w fun e w' => e = .returned (.tuple #[.int .i64 (chAt s a).1, .int .i64 (chAt s a).2]) ∧ Below w.heap.size w w' := by
  by_cases h1 : a < 0
  · have HC := Lib.hid (chAt_out (s := s) (.inl h1))
    clear hT
    go_enter Tryd.func13, Tryd.ntmps13
    go_wp2
    go_ret2
    exact ⟨by rw [HC.out]; rfl, Below.refl _ _⟩
  by_cases h2 : (s.size : Int) ≤ a
  · have HC := Lib.hid (chAt_out (s := s) (.inr h2))
    clear hT
    go_enter Tryd.func13, Tryd.ntmps13
    go_wp2
    go_ret2
    exact ⟨by rw [HC.out]; rfl, Below.refl _ _⟩
  obtain ⟨k, rfl⟩ := Int.eq_ofNat_of_zero_le (show 0 ≤ a by omega)
  have hk : k < s.size := by omega
  have hne : s.data.toList.drop k ≠ [] := by
    intro e
    have := congrArg List.length e
    rw [List.length_drop, size_list] at this
    simp at this; omega
  have hc := Tryd.utf8_DecodeRuneInString (s.extract k s.size) w hT
  have hle := decodeGo_le (s := s.extract k s.size)
  have hcase := decodeGo_hd (ext_drop s k) hne
  rw [chAt_in hk]
  obtain ⟨R, hR⟩ : ∃ R, (Lib.decodeGo (s.extract k s.size)).1 = R := ⟨_, rfl⟩
  obtain ⟨K, hK⟩ : ∃ K, (Lib.decodeGo (s.extract k s.size)).2 = K := ⟨_, rfl⟩
  rw [hR, hK] at hc hle hcase
  have hpair : Lib.decodeGo (s.extract k s.size) = (R, K) := by rw [← hR, ← hK]
  rw [hpair] at hcase
  have HC := Lib.hid hc
  obtain ⟨l1, l2⟩ := hle
  clear hc hR hK hpair hne hT h1 h2
  rcases hcase with ⟨e1, e2, e3⟩ | ⟨e1, e2⟩
  · have HE := Lib.hid e3
    subst e1 e2
    clear e3
    go_enter Tryd.func13, Tryd.ntmps13
    go_wp2_with (go_at_call 27; (with_reducible refine HC.out.mono ?_); rintro e w1 ⟨rfl, hb⟩)
    go_ret2
    exact ⟨by rw [HE.out]; rfl, hb⟩
  · have HE := Lib.hid e2
    clear e2
    have hR : (R : Int) ≤ 1114111 := by omega
    by_cases c1 : R = 65533
    · have hb1 : ((R : Int) == 65533) = true := by rw [c1]; rfl
      have hb2 : ¬ (K : Int) < 3 := by omega
      have hb3 : decide ((K : Int) < 3) = false := decide_eq_false hb2
      clear c1 e1
      go_enter Tryd.func13, Tryd.ntmps13
      go_wp2_with (go_at_call 27; (with_reducible refine HC.out.mono ?_); rintro e w1 ⟨rfl, hb⟩)
      go_ret2
      exact ⟨by rw [← HE.out]; rfl, hb⟩
    · have hb1 : ((R : Int) == 65533) = false := by rw [beq_eq_false_iff_ne]; omega
      clear c1 e1
      go_enter Tryd.func13, Tryd.ntmps13
      go_wp2_with (go_at_call 27; (with_reducible refine HC.out.mono ?_); rintro e w1 ⟨rfl, hb⟩)
      go_ret2
      exact ⟨by rw [← HE.out]; rfl, hb⟩
end Go.Proofs.YtiodnncpgdiejaaDoor.Utf
