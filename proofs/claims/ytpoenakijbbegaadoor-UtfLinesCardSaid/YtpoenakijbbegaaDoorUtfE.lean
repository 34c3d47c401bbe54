/-
  Contracts of package utf: valid strings, characters counted.
-/
import Derived.Test.YtpoenakijbbegaaDoorUtfD
import Derived.Test.YtpoenakijbbegaaDoorUtfMath2
import Derived.Test.YtpoenakijbbegaaDoorShelf2
namespace Go.Proofs.YtpoenakijbbegaaDoor.Utf
open Go.RowKit
set_option linter.unusedVariables false
set_option linter.unusedSimpArgs false

def vld (s : ByteArray) : Bool := Lib.validD s.data.toList
theorem valid_any (s : ByteArray) (w : World) (hT : Tabs w) (hs : s.size ≤ 4611686018427387904) : Calls Tryd.prog 15 #[.string s] w fun e w' => e = .returned (.bool (vld s)) ∧ Below w.heap.size w w' := by
  have hc : Calls Tryd.prog 34 #[.string s] w fun e w' => e = .returned (.bool (vld s)) ∧ Below w.heap.size w w' := Any.utf8_ValidString Tryd.hand196 s w (by omega) hT
  have HC := Lib.hid hc
  clear hc hT
  go_enter Tryd.func15, Tryd.ntmps15
  go_wp2_with (go_at_call 34; (with_reducible refine HC.out.mono ?_); rintro e w1 ⟨rfl, hb⟩)
  go_ret
  exact ⟨rfl, hb⟩
theorem valid_is {s : ByteArray} {w : World} {b : Bool} (h : Hid (vld s = b)) (hT : Tabs w) (hs : s.size ≤ 4611686018427387904) : Calls Tryd.prog 15 #[.string s] w fun e w' => e = .returned (.bool b) ∧ Below w.heap.size w w' := by
  have := valid_any s w hT hs; rwa [h.out] at this
theorem count_any (s : ByteArray) (w : World) (hs : s.size ≤ 4611686018427387904) : Calls Tryd.prog 38 #[.string s] w fun e w' => e = .returned (.int .i64 (nch s.data.toList)) ∧ Below w.heap.size w w' :=
  (Tryd.utf8_RuneCountInString s w (by omega)).mono fun _ _ ⟨he, pos, hw⟩ => ⟨by rw [he]; rfl, by rw [hw]; exact (Below.refl _ _).alloc (Nat.le_refl _) _⟩
/-- The number of characters, and its error. -/
def lnN (s : ByteArray) : Nat := if vld s = true then nch s.data.toList else 0
def lnE (s : ByteArray) : Int := if vld s = true then 0 else 5
theorem len_any (s : ByteArray) (w : World) (hT : Tabs w) (hs : s.size ≤ 4611686018427387904) : Calls Tryd.prog 21 #[.string s] w fun e w' => e = .returned (.tuple #[.int .i64 (lnN s), .int .i64 (lnE s)]) ∧ Below w.heap.size w w' := by
  cases h : vld s with
  | true =>
    have HV := Lib.hid h
    have e1 : Hid (lnN s = nch s.data.toList) := if_pos h
    have e2 : Hid (lnE s = 0) := if_pos h
    clear h
    go_enter Tryd.func21, Tryd.ntmps21
    go_wp2_with (first | (go_at_call 15; (with_reducible refine (valid_is HV hT hs).mono ?_); rintro e w1 ⟨rfl, hb1⟩) | (go_at_call 38; (with_reducible refine (count_any _ _ hs).mono ?_); rintro e w2 ⟨rfl, hb2⟩))
    go_ret2
    exact ⟨by rw [e1.out, e2.out]; rfl, bthen hb1 hb2⟩
  | false =>
    have HV := Lib.hid h
    have e1 : Hid (lnN s = 0) := if_neg (by rw [h]; simp)
    have e2 : Hid (lnE s = 5) := if_neg (by rw [h]; simp)
    clear h
    go_enter Tryd.func21, Tryd.ntmps21
    go_wp2_with (go_at_call 15; (with_reducible refine (valid_is HV hT hs).mono ?_); rintro e w1 ⟨rfl, hb1⟩)
    go_ret2
    exact ⟨by rw [e1.out, e2.out]; rfl, hb1⟩
theorem len_is {s : ByteArray} {w : World} {n : Nat} {c : Int} (h1 : Hid (lnN s = n)) (h2 : Hid (lnE s = c)) (hT : Tabs w) (hs : s.size ≤ 4611686018427387904) : Calls Tryd.prog 21 #[.string s] w fun e w' => e = .returned (.tuple #[.int .i64 n, .int .i64 c]) ∧ Below w.heap.size w w' := by
  have := len_any s w hT hs; rwa [h1.out, h2.out] at this
theorem one_vld {r : Nat} (hc : chr r = true) : vld (encS r) = true ∧ lnN (encS r) = 1 ∧ lnE (encS r) = 0 := by
  obtain ⟨h1, h2⟩ := one_char hc
  have h : vld (encS r) = true := h1
  exact ⟨h, (if_pos h).trans h2, if_pos h⟩
theorem encS_size (r : Nat) : (encS r).size = (enc r).length := by unfold encS; simp [ByteArray.size]
theorem back_at {r : Nat} (hc : chr r = true) (a b : ByteArray) : chAt (a ++ encS r ++ b) (a.size : Int) = (r, (enc r).length) := by
  have hl : (a ++ encS r ++ b).data.toList = a.data.toList ++ (enc r ++ b.data.toList) := by
    rw [Joins.data_append, Joins.data_append, List.append_assoc]; rfl
  have h1 : 1 ≤ (enc r).length := by
    rw [enc_len]
    repeat' split
    all_goals omega
  have hlt : a.size < (a ++ encS r ++ b).size := by rw [ByteArray.size_append, ByteArray.size_append, encS_size]; omega
  rw [chAt_in hlt, hl]
  have hd' : (a.data.toList ++ (enc r ++ b.data.toList)).drop a.size = enc r ++ b.data.toList := List.drop_left
  rw [hd', hd_enc hc]
theorem decode_is {s : ByteArray} {a : Int} {w : World} {r k : Nat} (h : Hid (chAt s a = (r, k))) (hT : Tabs w) (hs : s.size ≤ 9223372036854775807) (ha : -9223372036854775808 ≤ a ∧ a ≤ 9223372036854775807) : Calls Tryd.prog 13 #[.string s, .int .i64 a] w fun e w' => e = .returned (.tuple #[.int .i64 r, .int .i64 k]) ∧ Below w.heap.size w w' := by
  have := decode_any s a w hT hs ha; rwa [h.out] at this
set_option maxRecDepth 100000 in
set_option maxHeartbeats 2000000 in
theorem back_walk (a b : ByteArray) (r : Int) (w : World) (hT : Tabs w) (hr : -9223372036854775808 ≤ r ∧ r ≤ 9223372036854775807) (ha : a.size ≤ 9223372036854775807) (hb' : b.size ≤ 9223372036854775807) : Calls Tryd.prog 9 #[.string a, .int .i64 r, .string b] w fun e w' => e = .returned (.bool true) ∧ Below w.heap.size w w' := by
  have hb := Below.refl w.heap.size w
  by_cases g1 : a.size ≤ 4096
  case neg =>
    go_enter Tryd.func9, Tryd.ntmps9
    go_wp2_with (go_at_call 12; (with_reducible refine (awake_any _ (hT.below hb)).mono ?_); rintro e w9 ⟨rfl, hb9⟩; replace hb := bthen hb hb9; clear hb9)
    go_ret
    exact ⟨rfl, hb⟩
  by_cases g2 : b.size ≤ 4096
  case neg =>
    go_enter Tryd.func9, Tryd.ntmps9
    go_wp2_with (go_at_call 12; (with_reducible refine (awake_any _ (hT.below hb)).mono ?_); rintro e w9 ⟨rfl, hb9⟩; replace hb := bthen hb hb9; clear hb9)
    go_ret
    exact ⟨rfl, hb⟩
  cases hc : isC r with
  | true =>
    have HC := Lib.hid hc
    obtain ⟨m, rfl⟩ := Int.eq_ofNat_of_zero_le (show 0 ≤ r by rw [isC_iff] at hc; omega)
    have hcm : chr m = true := by unfold isC at hc; rw [Int.toNat_natCast] at hc; simpa using hc
    obtain ⟨o1, o2, o3⟩ := one_vld hcm
    have O1 := Lib.hid o1
    have O2 := Lib.hid o2
    have O3 := Lib.hid o3
    have hat := back_at hcm a b
    have hlen := encS_size m
    have hbd : 1 ≤ (enc m).length ∧ (enc m).length ≤ 4 := by
      rw [enc_len]
      repeat' split
      all_goals omega
    rw [← hlen] at hat hbd
    have HAT := Lib.hid hat
    have HE := Lib.hid (fun w => encode_t (m : Int) w hc)
    simp only [Int.toNat_natCast] at HE
    clear hc hcm o1 o2 o3 hat hlen
    obtain ⟨hb1, hb4⟩ := hbd
    generalize encS m = S at *
    have hz : (a ++ S ++ b).size ≤ 9223372036854775807 := by rw [ByteArray.size_append, ByteArray.size_append]; omega
    go_enter Tryd.func9, Tryd.ntmps9
    go_wp2_with (first | (go_at_call 17; (with_reducible refine (HE.out _).mono ?_); rintro e w' ⟨rfl, rfl⟩) | (go_at_call 13; (with_reducible refine (decode_is HAT (hT.below hb) hz (by omega)).mono ?_); rintro e w1 ⟨rfl, hb1⟩; replace hb := bthen hb hb1; clear hb1) | (go_at_call 21; (with_reducible refine (len_is O2 O3 (hT.below hb) (by omega)).mono ?_); rintro e w2 ⟨rfl, hb2⟩; replace hb := bthen hb hb2; clear hb2) | (go_at_call 15; (with_reducible refine (valid_is O1 (hT.below hb) (by omega)).mono ?_); rintro e w3 ⟨rfl, hb3⟩; replace hb := bthen hb hb3; clear hb3) | (go_at_call 12; (with_reducible refine (awake_any _ (hT.below hb)).mono ?_); rintro e w9 ⟨rfl, hb9⟩; replace hb := bthen hb hb9; clear hb9))
    go_ret
    exact ⟨rfl, hb⟩
  | false =>
    have HE := Lib.hid (fun w => encode_f r w hc)
    have hr3 : ¬ ((0 ≤ r ∧ r < 55296) ∨ (57344 ≤ r ∧ r ≤ 1114111)) := by rw [← isC_iff, hc]; simp
    have hw : r < 0 ∨ (0 ≤ r ∧ 1114111 < r) ∨ (0 ≤ r ∧ r ≤ 1114111 ∧ 55296 ≤ r ∧ r ≤ 57343) := by omega
    clear hc hr3
    rcases hw with h1 | ⟨h1, h2⟩ | ⟨h1, h2, h3, h4⟩
    all_goals
      go_enter Tryd.func9, Tryd.ntmps9
      go_wp2_with (first | (go_at_call 17; (with_reducible refine (HE.out _).mono ?_); rintro e w' ⟨rfl, rfl⟩) | (go_at_call 12; (with_reducible refine (awake_any _ (hT.below hb)).mono ?_); rintro e w9 ⟨rfl, hb9⟩; replace hb := bthen hb hb9; clear hb9))
      go_ret
      exact ⟨rfl, hb⟩
end Go.Proofs.YtpoenakijbbegaaDoor.Utf
