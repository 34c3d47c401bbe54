/-
  Contracts of calendar.Day, Weekday, Date, Week, AddMonths.
-/
import Derived.Test.YtkbddelacjjapaaDoorCalWalks
import Derived.Test.YtkbddelacjjapaaDoorCalDate
namespace Go.Proofs.YtkbddelacjjapaaDoor.Cal
open Go.RowKit
set_option linter.unusedVariables false
set_option linter.unusedSimpArgs false

theorem day_split (y m d : Int) : d < 1 ∨ (1 ≤ d ∧ mon y m < d) ∨ (1 ≤ d ∧ d ≤ mon y m) := by omega
theorem dayN_no {y m d : Int} (h : d < 1 ∨ mon y m < d) : dayB y m d = false ∧ dayN y m d = 0 ∧ dayE y m d = 2 := by
  have : dayB y m d = false := by unfold dayB; simp; omega
  refine ⟨this, ?_, ?_⟩ <;> simp [dayN, dayE, this]
theorem dayN_yes {y m d : Int} (h : 1 ≤ d ∧ d ≤ mon y m) : dayB y m d = true ∧ dayN y m d = num y m d ∧ dayE y m d = 0 := by
  have : dayB y m d = true := by unfold dayB; simp; omega
  refine ⟨this, ?_, ?_⟩ <;> simp [dayN, dayE, this]

set_option maxHeartbeats 1000000 in
/-- calendar.Day -/
theorem day_any (y m d : Int) (w : World) : Calls Tryd.prog 23 #[.int .i64 y, .int .i64 m, .int .i64 d] w fun e w' => e = .returned (.tuple #[.int .i64 (dayN y m d), .int .i64 (dayE y m d)]) ∧ Below w.heap.size w w' := by
  rcases day_split y m d with h | h | h
  · obtain ⟨-, h2, h3⟩ := dayN_no (y := y) (m := m) (Or.inl h)
    have H2 := Lib.hid h2
    have H3 := Lib.hid h3
    clear h2 h3
    go_enter Tryd.func23, Tryd.ntmps23
    go_wp2
    go_ret2
    exact ⟨ret_two H2.out.symm H3.out.symm, Below.refl _ _⟩
  · obtain ⟨-, h2, h3⟩ := dayN_no (y := y) (m := m) (Or.inr h.2)
    have H2 := Lib.hid h2
    have H3 := Lib.hid h3
    obtain ⟨ha, hb⟩ := h
    clear h2 h3
    go_enter Tryd.func23, Tryd.ntmps23
    go_wp2_with (go_at_call 37; refine (mon_any _ _ _).mono ?_; rintro e w1 ⟨rfl, hb1⟩)
    go_ret2
    exact ⟨ret_two H2.out.symm H3.out.symm, hb1⟩
  · obtain ⟨h1, h2, h3⟩ := dayN_yes h
    obtain ⟨a, b, c, e, f, g⟩ := dayB_in h1
    have H2 := Lib.hid h2
    have H3 := Lib.hid h3
    have cb := bef_bd y a (by omega)
    have mb := mon_bd y m
    have c1 := Lib.hid (cum_one y)
    clear h1 h2 h3 h
    go_enter Tryd.func23, Tryd.ntmps23
    go_wp2_with (first | (go_at_call 37; refine (mon_any _ _ _).mono ?_; rintro e w1 ⟨rfl, hb1⟩) | (go_at_call 38; refine (bef_any _ _ a (by omega)).mono ?_; rintro e w' ⟨rfl, rfl⟩))
    have hz := hb1.size
    go_loopw [8, 26] (fun n i wr => ∃ k : Nat, (k : Int) ≤ m - 1 ∧ i = .int .i64 k ∧ n = .int .i64 (bef y + d - 1 + cum y (k + 1)) ∧ Below w.heap.size w wr) (fun _ i _ => (m - 1 - intOf i).toNat)
    case atStart => exact ⟨0, by omega, rfl, by have := c1.out; simp [this], hb1⟩
    case round =>
      obtain ⟨k, hk, rfl, rfl, hbw⟩ := hrel
      have q0 := cum_bd y (k + 1)
      have hzw := hbw.size
      by_cases hlt : (k : Int) < m - 1
      · have cs := Lib.hid (cum_succ y (k + 1) a b (by omega) (by omega))
        have mk := mon_bd y (k + 1)
        go_wp2_with (go_at_call 37; refine (mon_any _ _ _).mono ?_; rintro e w2 ⟨rfl, hb2⟩)
        go_roundw
        case rel => exact ⟨k + 1, by omega, by go_num, by rw [show ((k + 1 : Nat) : Int) + 1 = (k : Int) + 1 + 1 by omega, cs.out]; go_num, bthen_of hbw hzw hb2⟩
        case measure => simp [intOf]; omega
      · go_wp2
        go_ret2
        exact ⟨ret_two (by rw [H2.out]; unfold num; rw [show (k : Int) + 1 = m by omega]; omega) H3.out.symm, hbw⟩

end Go.Proofs.YtkbddelacjjapaaDoor.Cal
