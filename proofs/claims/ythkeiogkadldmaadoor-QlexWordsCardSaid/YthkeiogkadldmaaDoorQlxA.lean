/-
  Contracts of package qlex and its reference: names, keywords.
-/
import Derived.Test.YthkeiogkadldmaaDoorStrTab
namespace Go.Proofs.YthkeiogkadldmaaDoor.Qlx
open Go.RowKit
set_option linter.unusedVariables false
set_option linter.unusedSimpArgs false

/-- A letter of a name; a character of a name. -/
def lett (c : UInt8) : Bool := decide ((97 ≤ c.toNat ∧ c.toNat ≤ 122) ∨ (65 ≤ c.toNat ∧ c.toNat ≤ 90) ∨ c.toNat = 95)
def dgtB (c : UInt8) : Bool := decide (48 ≤ c.toNat ∧ c.toNat ≤ 57)
def wrd (c : UInt8) : Bool := lett c || dgtB c
/-- The length of the name that bytes begin with. -/
def nlen : List UInt8 → Nat
  | [] => 0
  | c :: t => if lett c then (t.takeWhile wrd).length + 1 else 0
theorem lett_ways (c : UInt8) : (lett c = false ∧ (c.toNat : Int) < 65) ∨ (lett c = true ∧ 65 ≤ (c.toNat : Int) ∧ (c.toNat : Int) ≤ 90) ∨ (lett c = false ∧ 90 < (c.toNat : Int) ∧ (c.toNat : Int) < 95) ∨ (lett c = true ∧ (c.toNat : Int) = 95) ∨ (lett c = false ∧ 95 < (c.toNat : Int) ∧ (c.toNat : Int) < 97) ∨ (lett c = true ∧ 97 ≤ (c.toNat : Int) ∧ (c.toNat : Int) ≤ 122) ∨ (lett c = false ∧ 122 < (c.toNat : Int)) := by
  unfold lett
  simp only [decide_eq_true_eq, decide_eq_false_iff_not]
  omega
theorem dgt_ways (c : UInt8) : (dgtB c = false ∧ (c.toNat : Int) < 48) ∨ (dgtB c = true ∧ 48 ≤ (c.toNat : Int) ∧ (c.toNat : Int) ≤ 57) ∨ (dgtB c = false ∧ 57 < (c.toNat : Int)) := by
  unfold dgtB
  simp only [decide_eq_true_eq, decide_eq_false_iff_not]
  omega
theorem start_any (c : UInt8) (w : World) : Calls Tryd.prog 10 #[.int .u8 c.toNat] w fun e w' => e = .returned (.bool (lett c)) ∧ w = w' := by
  have hx : 0 ≤ (c.toNat : Int) ∧ (c.toNat : Int) < 256 := by have := UInt8.toNat_lt c; omega
  obtain ⟨hx0, hx1⟩ := hx
  rcases lett_ways c with ⟨h, h1⟩ | ⟨h, h1, h2⟩ | ⟨h, h1, h2⟩ | ⟨h, h1⟩ | ⟨h, h1, h2⟩ | ⟨h, h1, h2⟩ | ⟨h, h1⟩
  all_goals
    rw [h]
    clear h
    generalize (c.toNat : Int) = x at *
    have hq : x = 95 ∨ (x == 95) = false := by rw [beq_eq_false_iff_ne]; omega
    rcases hq with rfl | hq
    all_goals first | omega | skip
    all_goals
     go_enter Tryd.func10, Tryd.ntmps10
     go_wp2
     go_ret
     exact ⟨ret_bool (by first | rfl | (simp; omega) | (simp <;> omega)), rfl⟩
theorem digit_any (c : UInt8) (w : World) : Calls Tryd.prog 11 #[.int .u8 c.toNat] w fun e w' => e = .returned (.bool (dgtB c)) ∧ w = w' := by
  have hx : 0 ≤ (c.toNat : Int) ∧ (c.toNat : Int) < 256 := by have := UInt8.toNat_lt c; omega
  obtain ⟨hx0, hx1⟩ := hx
  rcases dgt_ways c with ⟨h, h1⟩ | ⟨h, h1, h2⟩ | ⟨h, h1⟩
  all_goals
    rw [h]
    clear h
    generalize (c.toNat : Int) = x at *
    have hq : x = 95 ∨ (x == 95) = false := by rw [beq_eq_false_iff_ne]; omega
    rcases hq with rfl | hq
    all_goals first | omega | skip
    all_goals
     go_enter Tryd.func11, Tryd.ntmps11
     go_wp2
     go_ret
     exact ⟨ret_bool (by first | rfl | (simp; omega) | (simp <;> omega)), rfl⟩
theorem rletter_any (c : UInt8) (w : World) : Calls Tryd.prog 13 #[.int .u8 c.toNat] w fun e w' => e = .returned (.bool (lett c)) ∧ w = w' := by
  have hx : 0 ≤ (c.toNat : Int) ∧ (c.toNat : Int) < 256 := by have := UInt8.toNat_lt c; omega
  obtain ⟨hx0, hx1⟩ := hx
  rcases lett_ways c with ⟨h, h1⟩ | ⟨h, h1, h2⟩ | ⟨h, h1, h2⟩ | ⟨h, h1⟩ | ⟨h, h1, h2⟩ | ⟨h, h1, h2⟩ | ⟨h, h1⟩
  all_goals
    rw [h]
    clear h
    generalize (c.toNat : Int) = x at *
    have hq : x = 95 ∨ (x == 95) = false := by rw [beq_eq_false_iff_ne]; omega
    rcases hq with rfl | hq
    all_goals first | omega | skip
    all_goals
     go_enter Tryd.func13, Tryd.ntmps13
     go_wp2
     go_ret
     exact ⟨ret_bool (by first | rfl | (simp; omega) | (simp <;> omega)), rfl⟩
theorem rdigit_any (c : UInt8) (w : World) : Calls Tryd.prog 14 #[.int .u8 c.toNat] w fun e w' => e = .returned (.bool (dgtB c)) ∧ w = w' := by
  have hx : 0 ≤ (c.toNat : Int) ∧ (c.toNat : Int) < 256 := by have := UInt8.toNat_lt c; omega
  obtain ⟨hx0, hx1⟩ := hx
  rcases dgt_ways c with ⟨h, h1⟩ | ⟨h, h1, h2⟩ | ⟨h, h1⟩
  all_goals
    rw [h]
    clear h
    generalize (c.toNat : Int) = x at *
    have hq : x = 95 ∨ (x == 95) = false := by rw [beq_eq_false_iff_ne]; omega
    rcases hq with rfl | hq
    all_goals first | omega | skip
    all_goals
     go_enter Tryd.func14, Tryd.ntmps14
     go_wp2
     go_ret
     exact ⟨ret_bool (by first | rfl | (simp; omega) | (simp <;> omega)), rfl⟩

theorem get_list {s : ByteArray} {k : Nat} (h : k < s.size) : s.data.toList[k]'h = s[k] := rfl
theorem drop_cons {s : ByteArray} {k : Nat} (h : k < s.size) : s.data.toList.drop k = s[k] :: s.data.toList.drop (k + 1) := by
  rw [List.drop_eq_getElem_cons (by exact h)]; rfl
theorem nlen_zero {s : ByteArray} (h : s.size = 0) : nlen s.data.toList = 0 := by
  have : s.data.toList = [] := List.length_eq_zero_iff.1 h
  rw [this]; rfl
theorem nlen_no {s : ByteArray} (h : 0 < s.size) (hl : lett s[0] = false) : nlen s.data.toList = 0 := by
  have := drop_cons h
  rw [List.drop_zero] at this
  rw [this]; simp [nlen, hl]
theorem nlen_yes {s : ByteArray} (h : 0 < s.size) (hl : lett s[0] = true) : nlen s.data.toList = 1 + ((s.data.toList.drop 1).takeWhile wrd).length := by
  have := drop_cons h
  rw [List.drop_zero] at this
  rw [this]; simp [nlen, hl]; omega
theorem nlen_step {s : ByteArray} {k : Nat} (h : k < s.size) (hl : wrd s[k] = true) (H : nlen s.data.toList = k + ((s.data.toList.drop k).takeWhile wrd).length) : nlen s.data.toList = k + 1 + ((s.data.toList.drop (k + 1)).takeWhile wrd).length := by
  rw [H, drop_cons h, List.takeWhile_cons, if_pos hl, List.length_cons]; omega
theorem nlen_stop {s : ByteArray} {k : Nat} (h : k < s.size) (hl : wrd s[k] = false) (H : nlen s.data.toList = k + ((s.data.toList.drop k).takeWhile wrd).length) : nlen s.data.toList = k := by
  rw [H, drop_cons h, List.takeWhile_cons, if_neg (by simp [hl])]; simp
theorem nlen_end {s : ByteArray} {k : Nat} (h : s.size ≤ k) (H : nlen s.data.toList = k + ((s.data.toList.drop k).takeWhile wrd).length) : nlen s.data.toList = k := by
  rw [H, List.drop_eq_nil_of_le (by exact h)]; simp
set_option maxHeartbeats 1000000 in
theorem size_any (s : ByteArray) (w : World) (hs : s.size ≤ maxLen) : Calls Tryd.prog 8 #[.string s] w fun e w' => e = .returned (.int .i64 (nlen s.data.toList)) ∧ w = w' := by
  unfold maxLen at hs
  by_cases h0 : s.size = 0
  · have HR := Lib.hid (nlen_zero h0)
    have he : s.toList = [] := by rw [toList_data]; exact List.length_eq_zero_iff.1 h0
    go_enter Tryd.func8, Tryd.ntmps8
    go_wp2
    go_ret
    exact ⟨ret_int (by rw [HR.out]; rfl), rfl⟩
  have hp : 0 < s.size := by omega
  have he : s.toList.isEmpty = false := by
    rw [toList_data]
    cases h : s.data.toList with
    | nil => exact absurd (List.length_eq_zero_iff.2 h) h0
    | cons => rfl
  cases hl : lett s[0] with
  | false =>
    have HR := Lib.hid (nlen_no hp hl)
    have HS := Lib.hid (start_any s[0])
    rw [hl] at HS
    clear hl
    go_enter Tryd.func8, Tryd.ntmps8
    go_wp2_with (go_at_call 10; (with_reducible refine (HS.out _).mono ?_); rintro e w' ⟨rfl, rfl⟩)
    go_ret
    exact ⟨ret_int (by rw [HR.out]; rfl), rfl⟩
  | true =>
    have HR := Lib.hid (nlen_yes hp hl)
    have HS := Lib.hid (start_any s[0])
    rw [hl] at HS
    clear hl
    go_enter Tryd.func8, Tryd.ntmps8
    go_wp2_with (go_at_call 10; (with_reducible refine (HS.out _).mono ?_); rintro e w' ⟨rfl, rfl⟩)
    go_loop [3] (fun i => ∃ k : Nat, k ≤ s.size ∧ i = .int .i64 k ∧ Hid (nlen s.data.toList = k + ((s.data.toList.drop k).takeWhile wrd).length)) (fun i => s.size - (intOf i).toNat)
    case atStart => exact ⟨1, hp, rfl, HR⟩
    case round =>
      obtain ⟨k, hk, rfl, HK⟩ := hrel
      by_cases hlt : k < s.size
      · have HA := Lib.hid (start_any s[k])
        have HD := Lib.hid (digit_any s[k])
        cases hl : lett s[k] with
        | true =>
          have HN := Lib.hid (nlen_step hlt (by unfold wrd; rw [hl]; rfl) HK.out)
          rw [hl] at HA
          clear hl
          go_wp2_with (go_at_call 10; (with_reducible refine (HA.out _).mono ?_); rintro e w' ⟨rfl, rfl⟩)
          go_round
          case rel => exact ⟨k + 1, by omega, by go_num, HN⟩
          case measure => simp [intOf]; omega
        | false =>
          cases hd : dgtB s[k] with
          | true =>
            have HN := Lib.hid (nlen_step hlt (by unfold wrd; rw [hl, hd]; rfl) HK.out)
            rw [hl] at HA
            rw [hd] at HD
            clear hl hd
            go_wp2_with (first | (go_at_call 10; (with_reducible refine (HA.out _).mono ?_); rintro e w' ⟨rfl, rfl⟩) | (go_at_call 11; (with_reducible refine (HD.out _).mono ?_); rintro e w' ⟨rfl, rfl⟩))
            go_round
            case rel => exact ⟨k + 1, by omega, by go_num, HN⟩
            case measure => simp [intOf]; omega
          | false =>
            have HN := Lib.hid (nlen_stop hlt (by unfold wrd; rw [hl, hd]; rfl) HK.out)
            rw [hl] at HA
            rw [hd] at HD
            clear hl hd
            go_wp2_with (first | (go_at_call 10; (with_reducible refine (HA.out _).mono ?_); rintro e w' ⟨rfl, rfl⟩) | (go_at_call 11; (with_reducible refine (HD.out _).mono ?_); rintro e w' ⟨rfl, rfl⟩))
            go_ret
            exact ⟨ret_int (by rw [HN.out]), rfl⟩
      · have HN := Lib.hid (nlen_end (show s.size ≤ k by omega) HK.out)
        go_wp2
        go_ret
        exact ⟨ret_int (by rw [HN.out]), rfl⟩
end Go.Proofs.YthkeiogkadldmaaDoor.Qlx
