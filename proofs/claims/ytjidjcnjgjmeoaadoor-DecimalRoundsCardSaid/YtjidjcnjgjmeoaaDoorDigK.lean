/-
  Contracts of the reference of digits: shifts; final zeros.
-/
import Derived.Test.YtjidjcnjgjmeoaaDoorDigJ
namespace Go.Proofs.YtjidjcnjgjmeoaaDoor.Dig
open Go.RowKit
set_option linter.unusedVariables false
set_option linter.unusedSimpArgs false

/-- How many zeros a numeral ends with. -/
def zer (x : Nat) : Nat := ((num x).reverse.takeWhile (· == 48)).length
theorem zer_code (x : Nat) : (Lib.trimRightB (S x).data.toList 48).length + zer x = (S x).size := by
  unfold Lib.trimRightB zer
  rw [S_list, List.length_reverse, S_size]
  have := congrArg List.length (List.takeWhile_append_dropWhile (p := (· == (48 : UInt8))) (l := (num x).reverse))
  rw [List.length_append, List.length_reverse] at this
  omega
theorem zer_stop {x k : Nat} (h : (((num x).reverse.drop k).takeWhile (· == 48)).length + k = zer x) (hs : ((num x).reverse.drop k).head? ≠ some 48) : k = zer x := by
  cases hc : (num x).reverse.drop k with
  | nil => rw [hc] at h; simpa using h
  | cons c l =>
    rw [hc] at h hs
    have : ¬ c = 48 := by simpa using hs
    rw [List.takeWhile_cons_of_neg (by simpa using this)] at h
    simpa using h
theorem zer_go {x k : Nat} (h : (((num x).reverse.drop k).takeWhile (· == 48)).length + k = zer x) (hk : k < (num x).length) (hs : ((num x).reverse.drop k).head? = some 48) : (((num x).reverse.drop (k + 1)).takeWhile (· == 48)).length + (k + 1) = zer x := by
  rw [← h]
  have hk' : k < (num x).reverse.length := by simpa using hk
  rw [List.head?_drop, List.getElem?_eq_getElem hk'] at hs
  injection hs with hs
  rw [List.drop_eq_getElem_cons hk', List.takeWhile_cons_of_pos (by simpa using hs)]
  simp; omega
theorem zer_head {x k : Nat} (hk : k < (S x).size) : ((num x).reverse.drop k).head? = some ((S x)[(S x).size - 1 - k]'(by omega)) := by
  have hk2 : k < (num x).reverse.length := by rw [List.length_reverse, ← S_size]; exact hk
  rw [List.head?_drop, List.getElem?_eq_getElem hk2, List.getElem_reverse, S_get]
  simp only [S_size]
set_option maxHeartbeats 400000 in
theorem zeros_any (x : Nat) (w : World) (hx : (S x).size ≤ 9223372036854775807) : Calls Tryd.prog 37 #[.string (S x)] w fun e w' => e = .returned (.int .i64 (zer x)) ∧ w = w' := by
  have hz := zer_code x
  have hc : Calls Tryd.prog 53 #[.string (S x), .string ⟨#[48]⟩] w fun e w' => e = .returned (.string ⟨(Lib.trimRightB (S x).data.toList 48).toArray⟩) ∧ w' = w := Tryd.strings_TrimRight_one (S x) 48 (by decide) w (by omega)
  generalize Lib.trimRightB (S x).data.toList 48 = t at *
  have ht : (⟨t.toArray⟩ : ByteArray).size = t.length := by simp [ByteArray.size]
  generalize (⟨t.toArray⟩ : ByteArray) = s at *
  have HC := Lib.hid hc
  have hle : s.size ≤ (S x).size := by omega
  have HZ := Lib.hid (show (S x).size - s.size = zer x by omega)
  clear hc ht hz
  go_enter Tryd.func37, Tryd.ntmps37
  go_wp2_with (go_at_call 53; (with_reducible refine HC.out.mono ?_); rintro e w' ⟨rfl, rfl⟩)
  go_ret
  exact ⟨ret_int (by have := HZ.out; omega), rfl⟩
set_option maxHeartbeats 400000 in
theorem rzeros_any (x : Nat) (w : World) (hx : (S x).size ≤ 9223372036854775807) : Calls Tryd.prog 11 #[.string (S x)] w fun e w' => e = .returned (.int .i64 (zer x)) ∧ w = w' := by
  go_enter Tryd.func11, Tryd.ntmps11
  go_wp2
  go_loop [3] (fun i => ∃ k : Nat, k ≤ (S x).size ∧ i = .int .i64 k ∧ Hid ((((num x).reverse.drop k).takeWhile (· == 48)).length + k = zer x)) (fun i => (S x).size - (intOf i).toNat)
  case atStart => exact ⟨0, Nat.zero_le _, rfl, Lib.hid (by simp [zer])⟩
  case round =>
    obtain ⟨k, hk, rfl, hd⟩ := hrel
    by_cases hlt : k < (S x).size
    · have hh := zer_head hlt
      by_cases h1 : (((S x)[(S x).size - 1 - k]'(by omega)).toNat : Int) = 48
      · have HB := Lib.hid (zer_go hd.out (by rw [← S_size]; exact hlt) (by rw [hh]; congr 1; apply UInt8.toNat_inj.1; show _ = 48; omega))
        have h2 : ((((S x)[(S x).size - 1 - k]'(by omega)).toNat : Int) == 48) = true := by simpa using h1
        clear h1 hh
        go_wp2
        go_round
        case rel => exact ⟨k + 1, by omega, by go_num, HB⟩
        case measure => simp [intOf]; omega
      · have HB := Lib.hid (zer_stop hd.out (by rw [hh]; intro e; injection e with e; exact h1 (by rw [e]; rfl)))
        have h2 : ((((S x)[(S x).size - 1 - k]'(by omega)).toNat : Int) == 48) = false := by simpa using h1
        clear h1 hh
        go_wp2
        go_ret
        exact ⟨ret_int (by rw [HB.out]), rfl⟩
    · have HB := Lib.hid (zer_stop hd.out (by rw [List.drop_eq_nil_of_le (by rw [List.length_reverse, ← S_size]; omega)]; simp))
      go_wp2
      go_ret
      exact ⟨ret_int (by rw [HB.out]), rfl⟩
end Go.Proofs.YtjidjcnjgjmeoaaDoor.Dig
