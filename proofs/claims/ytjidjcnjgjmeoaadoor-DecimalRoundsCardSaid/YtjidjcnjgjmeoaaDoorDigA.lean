/-
  Contracts of package digits and its reference: single digits, tests.
-/
import Derived.Test.YtjidjcnjgjmeoaaDoorBase
import Derived.Test.YtjidjcnjgjmeoaaDoorDigMath2
namespace Go.Proofs.YtjidjcnjgjmeoaaDoor.Dig
open Go.RowKit
set_option linter.unusedVariables false
set_option linter.unusedSimpArgs false

/-- The numeral of a number, as a string. -/
def S (n : Nat) : ByteArray := ⟨(num n).toArray⟩
theorem S_list (n : Nat) : (S n).data.toList = num n := rfl
theorem S_size (n : Nat) : (S n).size = (num n).length := by unfold S; simp [ByteArray.size]
theorem S_get {n k : Nat} (h : k < (S n).size) : (S n)[k] = (num n)[k]'(by rw [← S_size]; exact h) := rfl
theorem S_digit {n i : Nat} (h : i < (S n).size) : ((S n)[(S n).size - 1 - i]'(by omega)).toNat = 48 + n / 10 ^ i % 10 := by
  have := digit_val (l := num n) (num_digs n) (i := i) (by rw [← S_size]; exact h)
  rw [val_num] at this
  rw [← this, S_get]
  congr 2
theorem S_past {n i : Nat} (h : (S n).size ≤ i) : n / 10 ^ i % 10 = 0 := by
  have := digit_past (l := num n) (num_digs n) (i := i) (by rw [← S_size]; exact h)
  rwa [val_num] at this
theorem S_zero : S 0 = ⟨#[]⟩ := rfl
/-- A valid numeral. -/
def numV (l : List UInt8) : Bool := decide (l.length ≤ 600) && numB l
theorem numV_iff {l : List UInt8} : numV l = true ↔ l.length ≤ 600 ∧ digs l = true ∧ l.head? ≠ some 48 := by unfold numV; rw [Bool.and_eq_true, numB_iff]; simp
theorem S_of {s : ByteArray} (h : numV s.data.toList = true) : s = S (val s.data.toList) := by
  unfold S
  rw [num_val (numB_iff.2 (numV_iff.1 h).2)]
theorem S_inj {a b : Nat} : S a = S b ↔ a = b := by
  constructor
  · intro h
    have := congrArg (fun s => s.data.toList) h
    exact num_inj this
  · rintro rfl; rfl

set_option maxHeartbeats 400000 in
theorem digit_any (x i : Nat) (w : World) (hx : (S x).size ≤ 9223372036854775807) (hi : i ≤ 9223372036854775807) : Calls Tryd.prog 41 #[.string (S x), .int .i64 i] w fun e w' => e = .returned (.int .i64 ((x / 10 ^ i % 10 : Nat) : Int)) ∧ w = w' := by
  by_cases h : i < (S x).size
  · have hd := S_digit h
    have h9 : x / 10 ^ i % 10 < 10 := Nat.mod_lt _ (by omega)
    generalize x / 10 ^ i % 10 = d at *
    go_enter Tryd.func41, Tryd.ntmps41
    go_wp2
    go_ret
    exact ⟨ret_int (by omega), rfl⟩
  · have hd := S_past (show (S x).size ≤ i by omega)
    go_enter Tryd.func41, Tryd.ntmps41
    go_wp2
    go_ret
    exact ⟨ret_int (by rw [hd]; rfl), rfl⟩
set_option maxHeartbeats 400000 in
theorem at_any (x i : Nat) (w : World) (hx : (S x).size ≤ 9223372036854775807) (hi : i ≤ 9223372036854775807) : Calls Tryd.prog 45 #[.string (S x), .int .i64 i] w fun e w' => e = .returned (.int .i64 ((x / 10 ^ i % 10 : Nat) : Int)) ∧ w = w' := by
  by_cases h : i < (S x).size
  · have hd := S_digit h
    have h9 : x / 10 ^ i % 10 < 10 := Nat.mod_lt _ (by omega)
    generalize x / 10 ^ i % 10 = d at *
    go_enter Tryd.func45, Tryd.ntmps45
    go_wp2
    go_ret
    exact ⟨ret_int (by omega), rfl⟩
  · have hd := S_past (show (S x).size ≤ i by omega)
    go_enter Tryd.func45, Tryd.ntmps45
    go_wp2
    go_ret
    exact ⟨ret_int (by rw [hd]; rfl), rfl⟩

theorem digs_nil : digs [] = true := rfl
theorem size_list (s : ByteArray) : s.data.toList.length = s.size := rfl
theorem get_list {s : ByteArray} {k : Nat} (h : k < s.size) : s.data.toList[k]'h = s[k] := rfl
theorem digs_succ {s : ByteArray} {k : Nat} (h : k < s.size) : digs (s.data.toList.take (k + 1)) = (digs (s.data.toList.take k) && isd s[k]) := by
  rw [List.take_succ_eq_append_getElem (by simpa using h), digs_snoc]; rfl
theorem digs_bad {s : ByteArray} {k : Nat} (h : k < s.size) (hb : isd s[k] = false) : digs s.data.toList = false := by
  cases hd : digs s.data.toList with
  | false => rfl
  | true =>
    have := digs_get hd (k := k) h
    rw [get_list h, hb] at this; cases this
theorem digs_whole {s : ByteArray} {k : Nat} (h : s.size ≤ k) (hb : digs (s.data.toList.take k) = true) : digs s.data.toList = true := by
  rwa [List.take_of_length_le (by rw [size_list]; exact h)] at hb
theorem isd_t {c : UInt8} (h1 : 48 ≤ (c.toNat : Int)) (h2 : (c.toNat : Int) ≤ 57) : isd c = true := isd_iff.2 ⟨by omega, by omega⟩
theorem isd_f {c : UInt8} (h : (c.toNat : Int) < 48 ∨ 57 < (c.toNat : Int)) : isd c = false := by
  cases hc : isd c with
  | false => rfl
  | true => have := isd_iff.1 hc; omega

set_option maxHeartbeats 400000 in
theorem allDigits_any (s : ByteArray) (w : World) (hs : s.size ≤ 9223372036854775807) : Calls Tryd.prog 52 #[.string s] w fun e w' => e = .returned (.bool (digs s.data.toList)) ∧ w = w' := by
  go_enter Tryd.func52, Tryd.ntmps52
  go_wp2
  go_loop [6] (fun i => ∃ k : Nat, k ≤ s.size ∧ i = .int .i64 k ∧ Hid (digs (s.data.toList.take k) = true)) (fun i => s.size - (intOf i).toNat)
  case atStart => exact ⟨0, Nat.zero_le _, rfl, rfl⟩
  case round =>
    obtain ⟨k, hk, rfl, hd⟩ := hrel
    by_cases hlt : k < s.size
    · by_cases h1 : (s[k].toNat : Int) < 48
      · have HB := Lib.hid (digs_bad hlt (isd_f (.inl h1)))
        go_wp2
        go_ret
        exact ⟨ret_bool HB.out.symm, rfl⟩
      · by_cases h2 : 57 < (s[k].toNat : Int)
        · have HB := Lib.hid (digs_bad hlt (isd_f (.inr h2)))
          go_wp2
          go_ret
          exact ⟨ret_bool HB.out.symm, rfl⟩
        · have HB := Lib.hid (show digs (s.data.toList.take (k + 1)) = true by rw [digs_succ hlt, hd.out, isd_t (by omega) (by omega)]; rfl)
          go_wp2
          go_round
          case rel => exact ⟨k + 1, by omega, by go_num, HB⟩
          case measure => simp [intOf]; omega
    · have HB := Lib.hid (digs_whole (show s.size ≤ k by omega) hd.out)
      go_wp2
      go_ret
      exact ⟨ret_bool HB.out.symm, rfl⟩
set_option maxHeartbeats 400000 in
theorem rdigits_any (s : ByteArray) (w : World) (hs : s.size ≤ 9223372036854775807) : Calls Tryd.prog 29 #[.string s] w fun e w' => e = .returned (.bool (digs s.data.toList)) ∧ w = w' := by
  go_enter Tryd.func29, Tryd.ntmps29
  go_wp2
  go_loop [3] (fun i => ∃ k : Nat, k ≤ s.size ∧ i = .int .i64 k ∧ Hid (digs (s.data.toList.take k) = true)) (fun i => s.size - (intOf i).toNat)
  case atStart => exact ⟨0, Nat.zero_le _, rfl, rfl⟩
  case round =>
    obtain ⟨k, hk, rfl, hd⟩ := hrel
    by_cases hlt : k < s.size
    · by_cases h1 : (s[k].toNat : Int) < 48
      · have HB := Lib.hid (digs_bad hlt (isd_f (.inl h1)))
        go_wp2
        go_ret
        exact ⟨ret_bool HB.out.symm, rfl⟩
      · by_cases h2 : 57 < (s[k].toNat : Int)
        · have HB := Lib.hid (digs_bad hlt (isd_f (.inr h2)))
          go_wp2
          go_ret
          exact ⟨ret_bool HB.out.symm, rfl⟩
        · have HB := Lib.hid (show digs (s.data.toList.take (k + 1)) = true by rw [digs_succ hlt, hd.out, isd_t (by omega) (by omega)]; rfl)
          go_wp2
          go_round
          case rel => exact ⟨k + 1, by omega, by go_num, HB⟩
          case measure => simp [intOf]; omega
    · have HB := Lib.hid (digs_whole (show s.size ≤ k by omega) hd.out)
      go_wp2
      go_ret
      exact ⟨ret_bool HB.out.symm, rfl⟩
theorem allDigits_t (s : ByteArray) (w : World) (hs : s.size ≤ 9223372036854775807) (h : Hid (digs s.data.toList = true)) : Calls Tryd.prog 52 #[.string s] w fun e w' => e = .returned (.bool true) ∧ w = w' := by
  have := allDigits_any s w hs; rwa [h.out] at this
theorem allDigits_f (s : ByteArray) (w : World) (hs : s.size ≤ 9223372036854775807) (h : Hid (digs s.data.toList = false)) : Calls Tryd.prog 52 #[.string s] w fun e w' => e = .returned (.bool false) ∧ w = w' := by
  have := allDigits_any s w hs; rwa [h.out] at this
theorem rdigits_t (s : ByteArray) (w : World) (hs : s.size ≤ 9223372036854775807) (h : Hid (digs s.data.toList = true)) : Calls Tryd.prog 29 #[.string s] w fun e w' => e = .returned (.bool true) ∧ w = w' := by
  have := rdigits_any s w hs; rwa [h.out] at this
theorem rdigits_f (s : ByteArray) (w : World) (hs : s.size ≤ 9223372036854775807) (h : Hid (digs s.data.toList = false)) : Calls Tryd.prog 29 #[.string s] w fun e w' => e = .returned (.bool false) ∧ w = w' := by
  have := rdigits_any s w hs; rwa [h.out] at this
theorem head_list (s : ByteArray) (h : 0 < s.size) : s.data.toList.head? = some s[0] := by
  have : s.data.toList.head? = s.data.toList[0]? := by cases s.data.toList <;> rfl
  rw [this, List.getElem?_eq_getElem (by simpa using h)]; rfl
theorem head_eq {s : ByteArray} (h : 0 < s.size) : (s.data.toList.head? = some 48) ↔ (s[0].toNat : Int) = 48 := by
  rw [head_list s h]
  constructor
  · intro e; injection e with e; rw [e]; rfl
  · intro e; congr 1; apply UInt8.toNat_inj.1; show _ = 48; omega
theorem empty_list {s : ByteArray} (h : s.size = 0) : s.data.toList = [] := List.eq_nil_of_length_eq_zero h

theorem tl_nil {s : ByteArray} (h : s.size = 0) : s.toList = [] := by rw [ByteArray.toList_eq]; exact List.eq_nil_of_length_eq_zero h
theorem tl_ne {s : ByteArray} (h : ¬ s.size = 0) : ¬ s.toList = [] := by rw [ByteArray.toList_eq]; intro e; exact h (congrArg List.length e)
theorem tl_ne' {s : ByteArray} (h : ¬ s.size = 0) : s.toList.isEmpty = false := by simpa using tl_ne h
theorem numV_long {l : List UInt8} (h : ¬ l.length ≤ 600) : numV l = false := by unfold numV; simp [h]
theorem numV_bad {l : List UInt8} (h : digs l = false) : numV l = false := by unfold numV numB; simp [h]
theorem numV_lead {l : List UInt8} (h : l.head? = some 48) : numV l = false := by unfold numV numB; simp [h]
set_option maxHeartbeats 400000 in
theorem valid_any (s : ByteArray) (w : World) (hs : s.size ≤ 9223372036854775807) : Calls Tryd.prog 36 #[.string s] w fun e w' => e = .returned (.bool (numV s.data.toList)) ∧ w = w' := by
  by_cases h1 : s.size ≤ 600
  case neg =>
    have HV := Lib.hid (numV_long (l := s.data.toList) h1)
    go_enter Tryd.func36, Tryd.ntmps36
    go_wp2
    go_ret
    exact ⟨ret_bool HV.out.symm, rfl⟩
  by_cases h2 : digs s.data.toList = true
  case neg =>
    have h2 : digs s.data.toList = false := by simpa using h2
    have HV := Lib.hid (numV_bad h2)
    have HB := Lib.hid h2
    clear h2
    go_enter Tryd.func36, Tryd.ntmps36
    go_wp2_with (go_at_call 52; refine (allDigits_f _ _ (by omega) HB).mono ?_; rintro e w' ⟨rfl, rfl⟩)
    go_ret
    exact ⟨ret_bool HV.out.symm, rfl⟩
  have HB := Lib.hid h2
  by_cases h3 : s.size = 0
  · have HV := Lib.hid (show numV s.data.toList = true by rw [empty_list h3]; rfl)
    have h4 : s.toList = [] := tl_nil h3
    clear h2
    go_enter Tryd.func36, Tryd.ntmps36
    go_wp2_with (go_at_call 52; refine (allDigits_t _ _ (by omega) HB).mono ?_; rintro e w' ⟨rfl, rfl⟩)
    go_ret
    exact ⟨ret_bool HV.out.symm, rfl⟩
  have h4 := tl_ne h3
  have h10 : ((s.size : Int) == 0) = false := by simpa using h3
  have h5 := tl_ne' h3
  have h6 : 0 < s.size := by omega
  by_cases h7 : (s[0].toNat : Int) = 48
  · have HV := Lib.hid (numV_lead ((head_eq h6).2 h7))
    clear h2
    go_enter Tryd.func36, Tryd.ntmps36
    go_wp2_with (go_at_call 52; refine (allDigits_t _ _ (by omega) HB).mono ?_; rintro e w' ⟨rfl, rfl⟩)
    go_ret
    exact ⟨ret_bool HV.out.symm, rfl⟩
  · have HV := Lib.hid (numV_iff.2 ⟨h1, h2, fun e => h7 ((head_eq h6).1 e)⟩)
    have h8 : ((s[0].toNat : Int) == 48) = false := by simpa using h7
    have h9 : ((s[0].toNat : Int) != 48) = true := by simpa using h7
    clear h2
    go_enter Tryd.func36, Tryd.ntmps36
    go_wp2_with (go_at_call 52; refine (allDigits_t _ _ (by omega) HB).mono ?_; rintro e w' ⟨rfl, rfl⟩)
    go_ret
    exact ⟨ret_bool HV.out.symm, rfl⟩
set_option maxHeartbeats 400000 in
theorem rvalid_any (s : ByteArray) (w : World) (hs : s.size ≤ 9223372036854775807) : Calls Tryd.prog 10 #[.string s] w fun e w' => e = .returned (.bool (numV s.data.toList)) ∧ w = w' := by
  by_cases h1 : s.size ≤ 600
  case neg =>
    have HV := Lib.hid (numV_long (l := s.data.toList) h1)
    go_enter Tryd.func10, Tryd.ntmps10
    go_wp2
    go_ret
    exact ⟨ret_bool HV.out.symm, rfl⟩
  by_cases h2 : digs s.data.toList = true
  case neg =>
    have h2 : digs s.data.toList = false := by simpa using h2
    have HV := Lib.hid (numV_bad h2)
    have HB := Lib.hid h2
    clear h2
    go_enter Tryd.func10, Tryd.ntmps10
    go_wp2_with (go_at_call 29; refine (rdigits_f _ _ (by omega) HB).mono ?_; rintro e w' ⟨rfl, rfl⟩)
    go_ret
    exact ⟨ret_bool HV.out.symm, rfl⟩
  have HB := Lib.hid h2
  by_cases h3 : s.size = 0
  · have HV := Lib.hid (show numV s.data.toList = true by rw [empty_list h3]; rfl)
    have h4 : s.toList = [] := tl_nil h3
    clear h2
    go_enter Tryd.func10, Tryd.ntmps10
    go_wp2_with (go_at_call 29; refine (rdigits_t _ _ (by omega) HB).mono ?_; rintro e w' ⟨rfl, rfl⟩)
    go_ret
    exact ⟨ret_bool HV.out.symm, rfl⟩
  have h4 := tl_ne h3
  have h10 : ((s.size : Int) == 0) = false := by simpa using h3
  have h5 := tl_ne' h3
  have h6 : 0 < s.size := by omega
  by_cases h7 : (s[0].toNat : Int) = 48
  · have HV := Lib.hid (numV_lead ((head_eq h6).2 h7))
    clear h2
    go_enter Tryd.func10, Tryd.ntmps10
    go_wp2_with (go_at_call 29; refine (rdigits_t _ _ (by omega) HB).mono ?_; rintro e w' ⟨rfl, rfl⟩)
    go_ret
    exact ⟨ret_bool HV.out.symm, rfl⟩
  · have HV := Lib.hid (numV_iff.2 ⟨h1, h2, fun e => h7 ((head_eq h6).1 e)⟩)
    have h8 : ((s[0].toNat : Int) == 48) = false := by simpa using h7
    have h9 : ((s[0].toNat : Int) != 48) = true := by simpa using h7
    clear h2
    go_enter Tryd.func10, Tryd.ntmps10
    go_wp2_with (go_at_call 29; refine (rdigits_t _ _ (by omega) HB).mono ?_; rintro e w' ⟨rfl, rfl⟩)
    go_ret
    exact ⟨ret_bool HV.out.symm, rfl⟩

theorem S_numV {n : Nat} (h : (S n).size ≤ 600) : numV (S n).data.toList = true := numV_iff.2 ⟨h, numB_iff.1 (num_numB n)⟩
theorem valid_S {n : Nat} {w : World} (h : (S n).size ≤ 600) : Calls Tryd.prog 36 #[.string (S n)] w fun e w' => e = .returned (.bool true) ∧ w = w' := by
  have := valid_any (S n) w (by omega); rwa [S_numV h] at this
theorem rvalid_S {n : Nat} {w : World} (h : (S n).size ≤ 600) : Calls Tryd.prog 10 #[.string (S n)] w fun e w' => e = .returned (.bool true) ∧ w = w' := by
  have := rvalid_any (S n) w (by omega); rwa [S_numV h] at this
end Go.Proofs.YtjidjcnjgjmeoaaDoor.Dig
