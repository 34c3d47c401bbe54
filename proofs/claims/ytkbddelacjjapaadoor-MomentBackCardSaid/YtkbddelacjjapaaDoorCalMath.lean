/-
  The plain mathematics of dates (nothing of the program): leap years, days of months, days before a year.
-/
namespace Go.Proofs.YtkbddelacjjapaaDoor.Cal

/-- Is y a leap year from 1 to 9999? -/
def lpB (y : Int) : Bool := decide (1 ≤ y ∧ y ≤ 9999 ∧ ((y % 4 = 0 ∧ ¬ y % 100 = 0) ∨ y % 400 = 0))
/-- Days of a month; 0 outside. -/
def mon (y m : Int) : Int := if 1 ≤ y ∧ y ≤ 9999 ∧ 1 ≤ m ∧ m ≤ 12 then (if m = 2 then (if lpB y = true then 29 else 28) else if m = 4 ∨ m = 6 ∨ m = 9 ∨ m = 11 then 30 else 31) else 0
/-- Days before a year. -/
def bef (y : Int) : Int := (y - 1) * 365 + (y - 1) / 4 - (y - 1) / 100 + (y - 1) / 400
/-- Days of a year. -/
def len (y : Int) : Int := if lpB y = true then 366 else 365
/-- Days before a month. -/
def cum (y m : Int) : Int := (if m ≤ 1 then 0 else if m = 2 then 31 else if m = 3 then 59 else if m = 4 then 90 else if m = 5 then 120 else if m = 6 then 151 else if m = 7 then 181 else if m = 8 then 212 else if m = 9 then 243 else if m = 10 then 273 else if m = 11 then 304 else if m = 12 then 334 else 365) + (if 3 ≤ m ∧ lpB y = true then 1 else 0)

theorem lpB_eq (y : Int) (h1 : 1 ≤ y) (h2 : y ≤ 9999) : lpB y = true ↔ ((y % 4 = 0 ∧ ¬ y % 100 = 0) ∨ y % 400 = 0) := by
  unfold lpB; simp [h1, h2]
theorem bef_succ (y : Int) (h1 : 1 ≤ y) (h2 : y ≤ 9999) : bef (y + 1) = bef y + len y := by
  unfold bef len
  by_cases h : lpB y = true
  · rw [if_pos h]; rw [lpB_eq y h1 h2] at h; omega
  · rw [if_neg h]; rw [lpB_eq y h1 h2] at h; omega
theorem bef_one : bef 1 = 0 := by decide
theorem bef_max : bef 10000 = 3652059 := by decide
theorem bef_lo (y : Int) (h : 1 ≤ y) : (y - 1) * 365 ≤ bef y := by unfold bef; omega
theorem bef_hi (y : Int) (h : 1 ≤ y) : bef y ≤ (y - 1) * 366 := by unfold bef; omega
theorem len_lo (y : Int) : 365 ≤ len y ∧ len y ≤ 366 := by unfold len; split <;> omega
theorem bef_mono (a b : Int) (h : a ≤ b) : bef a ≤ bef b := by unfold bef; omega
theorem mon_pos (y m : Int) (h1 : 1 ≤ y) (h2 : y ≤ 9999) (h3 : 1 ≤ m) (h4 : m ≤ 12) : 28 ≤ mon y m ∧ mon y m ≤ 31 := by
  unfold mon; rw [if_pos ⟨h1, h2, h3, h4⟩]; repeat' split
  all_goals omega
theorem mon_bd (y m : Int) : 0 ≤ mon y m ∧ mon y m ≤ 31 := by
  unfold mon; repeat' split
  all_goals omega
theorem twelve (m : Int) (h3 : 1 ≤ m) (h4 : m ≤ 12) : m = 1 ∨ m = 2 ∨ m = 3 ∨ m = 4 ∨ m = 5 ∨ m = 6 ∨ m = 7 ∨ m = 8 ∨ m = 9 ∨ m = 10 ∨ m = 11 ∨ m = 12 := by omega
theorem cum_succ (y m : Int) (h1 : 1 ≤ y) (h2 : y ≤ 9999) (h3 : 1 ≤ m) (h4 : m ≤ 12) : cum y (m + 1) = cum y m + mon y m := by
  by_cases hl : lpB y = true <;> rcases twelve m h3 h4 with rfl | rfl | rfl | rfl | rfl | rfl | rfl | rfl | rfl | rfl | rfl | rfl <;> simp [cum, mon, h1, h2, hl]
theorem cum_one (y : Int) : cum y 1 = 0 := by unfold cum; simp
theorem cum_end (y : Int) : cum y 13 = len y := by unfold cum len; by_cases hl : lpB y = true <;> simp [hl]
theorem cum_bd (y m : Int) : 0 ≤ cum y m ∧ cum y m ≤ 366 := by
  unfold cum; repeat' split
  all_goals omega
theorem bef_bd (y : Int) (h1 : 1 ≤ y) (h2 : y ≤ 10000) : 0 ≤ bef y ∧ bef y ≤ 3652059 := by
  have := bef_lo y h1
  have := bef_mono y 10000 h2
  rw [bef_max] at this; omega

end Go.Proofs.YtkbddelacjjapaaDoor.Cal
