/-
  Dates and their numbers: the plain mathematics (nothing of the program).
-/
import Derived.Test.YtkbddelacjjapaaDoorCalMath
namespace Go.Proofs.YtkbddelacjjapaaDoor.Cal

/-- Is there such a date? -/
def dayB (y m d : Int) : Bool := decide (1 ≤ d ∧ d ≤ mon y m)
/-- The number of a date. -/
def num (y m d : Int) : Int := bef y + cum y m + d - 1
def dayN (y m d : Int) : Int := if dayB y m d = true then num y m d else 0
def dayE (y m d : Int) : Int := if dayB y m d = true then 0 else 2
theorem dayB_iff (y m d : Int) : dayB y m d = true ↔ (1 ≤ d ∧ d ≤ mon y m) := by unfold dayB; simp
theorem mon_zero (y m : Int) (h : ¬ (1 ≤ y ∧ y ≤ 9999 ∧ 1 ≤ m ∧ m ≤ 12)) : mon y m = 0 := by unfold mon; rw [if_neg h]
theorem dayB_in {y m d : Int} (h : dayB y m d = true) : 1 ≤ y ∧ y ≤ 9999 ∧ 1 ≤ m ∧ m ≤ 12 ∧ 1 ≤ d ∧ d ≤ mon y m := by
  rw [dayB_iff] at h
  by_cases c : 1 ≤ y ∧ y ≤ 9999 ∧ 1 ≤ m ∧ m ≤ 12
  · omega
  · have := mon_zero y m c; omega
theorem exists_year (k : Nat) (n : Int) (h0 : 0 ≤ n) (h1 : n < bef (k + 1)) : ∃ y : Int, 1 ≤ y ∧ y ≤ k ∧ bef y ≤ n ∧ n < bef (y + 1) := by
  induction k with
  | zero => have := bef_one; simp at h1; omega
  | succ k ih =>
    by_cases c : n < bef (k + 1)
    · obtain ⟨y, a, b, d, e⟩ := ih c; exact ⟨y, a, by omega, d, e⟩
    · exact ⟨k + 1, by omega, by omega, by omega, by simpa using h1⟩
theorem exists_month (y r : Int) (k : Nat) (h0 : 0 ≤ r) (h1 : r < cum y (k + 1)) : ∃ m : Int, 1 ≤ m ∧ m ≤ k ∧ cum y m ≤ r ∧ r < cum y (m + 1) := by
  induction k with
  | zero => have := cum_one y; simp at h1; omega
  | succ k ih =>
    by_cases c : r < cum y (k + 1)
    · obtain ⟨m, a, b, d, e⟩ := ih c; exact ⟨m, a, by omega, d, e⟩
    · exact ⟨k + 1, by omega, by omega, by omega, by simpa using h1⟩
theorem exists_date (n : Int) (h0 : 0 ≤ n) (h1 : n ≤ 3652058) : ∃ y m d : Int, dayB y m d = true ∧ num y m d = n := by
  obtain ⟨y, a, b, c, d⟩ := exists_year 9999 n h0 (by have := bef_max; show n < bef 10000; omega)
  have hs := bef_succ y a (by omega)
  have he := cum_end y
  obtain ⟨m, e, f, g, h⟩ := exists_month y (n - bef y) 12 (by omega) (by show n - bef y < cum y 13; omega)
  have hc := cum_succ y m a (by omega) e (by omega)
  exact ⟨y, m, n - bef y - cum y m + 1, by rw [dayB_iff]; omega, by unfold num; omega⟩
theorem num_in {y m d : Int} (h : dayB y m d = true) : bef y ≤ num y m d ∧ num y m d < bef (y + 1) ∧ cum y m ≤ num y m d - bef y ∧ num y m d - bef y < cum y (m + 1) := by
  obtain ⟨a, b, c, e, f, g⟩ := dayB_in h
  have hs := bef_succ y a b
  have hc := cum_succ y m a b c e
  have h0 := cum_bd y m
  have h1 : cum y (m + 1) ≤ len y := by
    rcases twelve m c e with rfl | rfl | rfl | rfl | rfl | rfl | rfl | rfl | rfl | rfl | rfl | rfl <;> (unfold cum len; by_cases hl : lpB y = true <;> simp [hl])
  unfold num; omega
theorem num_bd {y m d : Int} (h : dayB y m d = true) : 0 ≤ num y m d ∧ num y m d ≤ 3652058 := by
  obtain ⟨a, b, c, e, f, g⟩ := dayB_in h
  obtain ⟨p, q, _, _⟩ := num_in h
  have := bef_bd y a (by omega)
  have := bef_bd (y + 1) (by omega) (by omega)
  omega
theorem cum_mono (y : Int) (a b : Int) (h0 : 1 ≤ a) (h : a ≤ b) (h1 : b ≤ 13) : cum y a ≤ cum y b := by
  by_cases hl : lpB y = true
  all_goals
    obtain ⟨k, rfl⟩ : ∃ k : Nat, b = a + k := ⟨(b - a).toNat, by omega⟩
    clear h
    induction k with
    | zero => simp
    | succ k ih =>
      have ih := ih (by omega)
      have : cum y (a + ↑k) ≤ cum y (a + ↑k + 1) := by
        rcases twelve (a + ↑k) (by omega) (by omega) with e | e | e | e | e | e | e | e | e | e | e | e <;> rw [e] <;> simp [cum, hl]
      rw [show a + ((k + 1 : Nat) : Int) = a + ↑k + 1 by omega]
      omega
theorem num_inj {y m d y' m' d' : Int} (h : dayB y m d = true) (h' : dayB y' m' d' = true) (e : num y m d = num y' m' d') : y = y' ∧ m = m' ∧ d = d' := by
  obtain ⟨a, b, c, g, _, _⟩ := dayB_in h
  obtain ⟨a', b', c', g', _, _⟩ := dayB_in h'
  obtain ⟨i, j, k, l⟩ := num_in h
  obtain ⟨i', j', k', l'⟩ := num_in h'
  have hy : y = y' := by
    by_cases c1 : y < y'
    · have := bef_mono (y + 1) y' (by omega); omega
    · by_cases c2 : y' < y
      · have := bef_mono (y' + 1) y (by omega); omega
      · omega
  subst hy
  have hm : m = m' := by
    by_cases c1 : m < m'
    · have := cum_mono y (m + 1) m' (by omega) (by omega) (by omega); omega
    · by_cases c2 : m' < m
      · have := cum_mono y (m' + 1) m (by omega) (by omega) (by omega); omega
      · omega
  subst hm
  unfold num at e
  exact ⟨rfl, rfl, by omega⟩

/-- The date of a number; three zeros where there is none. -/
noncomputable def dt (n : Int) : Int × Int × Int := by
  classical exact if h : ∃ p : Int × Int × Int, dayB p.1 p.2.1 p.2.2 = true ∧ num p.1 p.2.1 p.2.2 = n then Classical.choose h else (0, 0, 0)
noncomputable def yOf (n : Int) : Int := (dt n).1
noncomputable def mOf (n : Int) : Int := (dt n).2.1
noncomputable def dOf (n : Int) : Int := (dt n).2.2
def dateE (n : Int) : Int := if 0 ≤ n ∧ n ≤ 3652058 then 0 else 2
theorem dt_eq {y m d n : Int} (h : dayB y m d = true) (e : num y m d = n) : yOf n = y ∧ mOf n = m ∧ dOf n = d := by
  have hx : ∃ p : Int × Int × Int, dayB p.1 p.2.1 p.2.2 = true ∧ num p.1 p.2.1 p.2.2 = n := ⟨(y, m, d), h, e⟩
  have hc := Classical.choose_spec hx
  have hd : dt n = Classical.choose hx := by unfold dt; rw [dif_pos hx]
  have := num_inj hc.1 h (hc.2.trans e.symm)
  unfold yOf mOf dOf; rw [hd]; exact this
theorem dt_out {n : Int} (h : ¬ (0 ≤ n ∧ n ≤ 3652058)) : yOf n = 0 ∧ mOf n = 0 ∧ dOf n = 0 := by
  have hx : ¬ ∃ p : Int × Int × Int, dayB p.1 p.2.1 p.2.2 = true ∧ num p.1 p.2.1 p.2.2 = n := fun ⟨p, a, b⟩ => by have := num_bd a; omega
  unfold yOf mOf dOf dt; rw [dif_neg hx]; exact ⟨rfl, rfl, rfl⟩
theorem dt_ok {n : Int} (h0 : 0 ≤ n) (h1 : n ≤ 3652058) : dayB (yOf n) (mOf n) (dOf n) = true ∧ num (yOf n) (mOf n) (dOf n) = n := by
  obtain ⟨y, m, d, a, b⟩ := exists_date n h0 h1
  obtain ⟨e1, e2, e3⟩ := dt_eq a b
  rw [e1, e2, e3]; exact ⟨a, b⟩
theorem dateE_in {n : Int} (h : 0 ≤ n ∧ n ≤ 3652058) : dateE n = 0 := by unfold dateE; rw [if_pos h]
theorem dateE_out {n : Int} (h : ¬ (0 ≤ n ∧ n ≤ 3652058)) : dateE n = 2 := by unfold dateE; rw [if_neg h]

def wdN (n : Int) : Int := if 0 ≤ n ∧ n ≤ 3652058 then n % 7 + 1 else 0
/-- The Thursday of the week. -/
def th (n : Int) : Int := n - n % 7 + 3
noncomputable def wkY (n : Int) : Int := if 0 ≤ n ∧ n ≤ 3652058 then yOf (th n) else 0
noncomputable def wkW (n : Int) : Int := if 0 ≤ n ∧ n ≤ 3652058 then (th n - bef (yOf (th n))) / 7 + 1 else 0
theorem th_in {n : Int} (h0 : 0 ≤ n) (h1 : n ≤ 3652058) : 0 ≤ th n ∧ th n ≤ 3652058 := by unfold th; omega
/-- Months since January of year 1. -/
noncomputable def mo (n k : Int) : Int := (yOf n - 1) * 12 + mOf n - 1 + k
def AmIn (n k : Int) (c : Int) : Prop := (0 ≤ n ∧ n ≤ 3652058) ∧ (-119988 ≤ k ∧ k ≤ 119988) ∧ 0 ≤ c
instance (n k c : Int) : Decidable (AmIn n k c) := by unfold AmIn; infer_instance
noncomputable def amN (n k : Int) : Int := if AmIn n k (mo n k) then dayN (mo n k / 12 + 1) (mo n k % 12 + 1) (min (dOf n) (mon (mo n k / 12 + 1) (mo n k % 12 + 1))) else 0
noncomputable def amE (n k : Int) : Int := if AmIn n k (mo n k) then dayE (mo n k / 12 + 1) (mo n k % 12 + 1) (min (dOf n) (mon (mo n k / 12 + 1) (mo n k % 12 + 1))) else 2
theorem am_no {n k : Int} (h : ¬ AmIn n k (mo n k)) : amN n k = 0 ∧ amE n k = 2 := by unfold amN amE; rw [if_neg h, if_neg h]; exact ⟨rfl, rfl⟩
theorem am_yes {n k : Int} (h : AmIn n k (mo n k)) : amN n k = dayN (mo n k / 12 + 1) (mo n k % 12 + 1) (min (dOf n) (mon (mo n k / 12 + 1) (mo n k % 12 + 1))) ∧ amE n k = dayE (mo n k / 12 + 1) (mo n k % 12 + 1) (min (dOf n) (mon (mo n k / 12 + 1) (mo n k % 12 + 1))) := by unfold amN amE; rw [if_pos h, if_pos h]; exact ⟨rfl, rfl⟩
theorem day_far {y m d : Int} (h : 9999 < y) : dayN y m (min d (mon y m)) = 0 ∧ dayE y m (min d (mon y m)) = 2 := by
  have : dayB y m (min d (mon y m)) = false := by
    unfold dayB; rw [mon_zero y m (by omega)]; simp; omega
  simp [dayN, dayE, this]
theorem mo_bd {n k : Int} (h0 : 0 ≤ n) (h1 : n ≤ 3652058) : k ≤ mo n k ∧ mo n k < k + 119988 := by
  obtain ⟨a, b, c, d, _, _⟩ := dayB_in (dt_ok h0 h1).1
  unfold mo; omega

end Go.Proofs.YtkbddelacjjapaaDoor.Cal
