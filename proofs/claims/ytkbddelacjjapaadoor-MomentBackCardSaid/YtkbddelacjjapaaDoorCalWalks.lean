/-
  What the functions of package calendar do (contracts by walks).
-/
import Derived.Test.YtkbddelacjjapaaDoorBase
import Derived.Test.YtkbddelacjjapaaDoorCalMath
namespace Go.Proofs.YtkbddelacjjapaaDoor.Cal
open Go.RowKit
set_option linter.unusedVariables false
set_option linter.unusedSimpArgs false


/-- calendar.Leap -/
theorem leap_any (y : Int) (w : World) : Calls Tryd.prog 50 #[.int .i64 y] w fun e w' => e = .returned (.bool (lpB y)) ∧ w = w' := by
  by_cases h1 : 1 ≤ y
  · by_cases h2 : y ≤ 9999
    · go_enter Tryd.func50, Tryd.ntmps50
      go_wp2
      all_goals go_ret
      all_goals exact ⟨ret_bool (by rw [Bool.eq_iff_iff]; unfold lpB; simp; omega), rfl⟩
    · go_enter Tryd.func50, Tryd.ntmps50
      go_wp2
      all_goals go_ret
      all_goals exact ⟨ret_bool (by rw [Bool.eq_iff_iff]; unfold lpB; simp; omega), rfl⟩
  · go_enter Tryd.func50, Tryd.ntmps50
    go_wp2
    all_goals go_ret
    all_goals exact ⟨ret_bool (by rw [Bool.eq_iff_iff]; unfold lpB; simp; omega), rfl⟩
theorem rleap_any (y : Int) (w : World) : Calls Tryd.prog 51 #[.int .i64 y] w fun e w' => e = .returned (.bool (lpB y)) ∧ w = w' := by
  by_cases h1 : y ≥ 1
  · by_cases h2 : y ≤ 9999
    · go_enter Tryd.func51, Tryd.ntmps51
      go_wp2
      all_goals go_ret
      all_goals exact ⟨ret_bool (by rw [Bool.eq_iff_iff]; unfold lpB; simp; omega), rfl⟩
    · go_enter Tryd.func51, Tryd.ntmps51
      go_wp2
      all_goals go_ret
      all_goals exact ⟨ret_bool (by rw [Bool.eq_iff_iff]; unfold lpB; simp; omega), rfl⟩
  · go_enter Tryd.func51, Tryd.ntmps51
    go_wp2
    all_goals go_ret
    all_goals exact ⟨ret_bool (by rw [Bool.eq_iff_iff]; unfold lpB; simp; omega), rfl⟩
/-- calendar.before -/
theorem bef_any (y : Int) (w : World) (h1 : 1 ≤ y) (h2 : y ≤ 10000) : Calls Tryd.prog 38 #[.int .i64 y] w fun e w' => e = .returned (.int .i64 (bef y)) ∧ w = w' := by
  go_enter Tryd.func38, Tryd.ntmps38
  go_wp2
  go_ret
  exact ⟨ret_int (by unfold bef; omega), rfl⟩
set_option maxHeartbeats 4000000 in
/-- calendar.Month -/
theorem mon_any (y m : Int) (w : World) : Calls Tryd.prog 37 #[.int .i64 y, .int .i64 m] w fun e w' => e = .returned (.int .i64 (mon y m)) ∧ Below w.heap.size w w' := by
  by_cases h1 : y < 1
  · go_enter Tryd.func37, Tryd.ntmps37
    go_wp2
    go_ret
    exact ⟨ret_int (by unfold mon; rw [if_neg (by omega)]), Below.refl _ _⟩
  by_cases h2 : 9999 < y
  · go_enter Tryd.func37, Tryd.ntmps37
    go_wp2
    go_ret
    exact ⟨ret_int (by unfold mon; rw [if_neg (by omega)]), Below.refl _ _⟩
  by_cases h3 : m < 1
  · go_enter Tryd.func37, Tryd.ntmps37
    go_wp2
    go_ret
    exact ⟨ret_int (by unfold mon; rw [if_neg (by omega)]), Below.refl _ _⟩
  by_cases h4 : 12 < m
  · go_enter Tryd.func37, Tryd.ntmps37
    go_wp2
    go_ret
    exact ⟨ret_int (by unfold mon; rw [if_neg (by omega)]), Below.refl _ _⟩
  by_cases hl : lpB y = true
  · rcases twelve m (by omega) (by omega) with rfl | rfl | rfl | rfl | rfl | rfl | rfl | rfl | rfl | rfl | rfl | rfl
    all_goals
      go_enter Tryd.func37, Tryd.ntmps37
      go_wp2_with (go_at_call 50; refine (leap_any _ _).mono ?_; rintro e w' ⟨rfl, rfl⟩)
      go_ret
      exact ⟨ret_int (by unfold mon; rw [if_pos (by omega), hl]; rfl), by first | exact Below.refl _ _ | exact (Below.refl _ _).alloc (Nat.le_refl _) _⟩
  · have hl' : lpB y = false := by simpa using hl
    rcases twelve m (by omega) (by omega) with rfl | rfl | rfl | rfl | rfl | rfl | rfl | rfl | rfl | rfl | rfl | rfl
    all_goals
      go_enter Tryd.func37, Tryd.ntmps37
      go_wp2_with (go_at_call 50; refine (leap_any _ _).mono ?_; rintro e w' ⟨rfl, rfl⟩)
      go_ret
      exact ⟨ret_int (by unfold mon; rw [if_pos (by omega), hl']; rfl), by first | exact Below.refl _ _ | exact (Below.refl _ _).alloc (Nat.le_refl _) _⟩

end Go.Proofs.YtkbddelacjjapaaDoor.Cal
