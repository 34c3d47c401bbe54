/-
  Contracts of datakitref04.Day, in, Date, Weekday, Week, AddMonths.
-/
import Derived.Test.YtkbddelacjjapaaDoorCalRef
import Derived.Test.YtkbddelacjjapaaDoorCalMore
namespace Go.Proofs.YtkbddelacjjapaaDoor.Cal
open Go.RowKit
set_option linter.unusedVariables false
set_option linter.unusedSimpArgs false

set_option maxHeartbeats 1000000 in
/-- datakitref04.Day -/
theorem rday_any (y m d : Int) (w : World) : Calls Tryd.prog 26 #[.int .i64 y, .int .i64 m, .int .i64 d] w fun e w' => e = .returned (.tuple #[.int .i64 (dayN y m d), .int .i64 (dayE y m d)]) ∧ w = w' := by
  rcases day_split y m d with h | h | h
  · obtain ⟨-, h2, h3⟩ := dayN_no (y := y) (m := m) (Or.inl h)
    have H2 := Lib.hid h2
    have H3 := Lib.hid h3
    clear h2 h3
    go_enter Tryd.func26, Tryd.ntmps26
    go_wp2
    go_ret2
    exact ⟨ret_two H2.out.symm H3.out.symm, rfl⟩
  · obtain ⟨-, h2, h3⟩ := dayN_no (y := y) (m := m) (Or.inr h.2)
    have H2 := Lib.hid h2
    have H3 := Lib.hid h3
    obtain ⟨ha, hb⟩ := h
    clear h2 h3
    go_enter Tryd.func26, Tryd.ntmps26
    go_wp2_with (go_at_call 39; refine (rmon_any _ _ _).mono ?_; rintro e w1 ⟨rfl, rfl⟩)
    go_ret2
    exact ⟨ret_two H2.out.symm H3.out.symm, rfl⟩
  · obtain ⟨h1, h2, h3⟩ := dayN_yes h
    obtain ⟨a, b, c, e, f, g⟩ := dayB_in h1
    have H2 := Lib.hid h2
    have H3 := Lib.hid h3
    have cb := bef_bd y a (by omega)
    have mb := mon_bd y m
    have c1 := Lib.hid (cum_one y)
    clear h1 h2 h3 h
    go_enter Tryd.func26, Tryd.ntmps26
    go_wp2_with (first | (go_at_call 39; refine (rmon_any _ _ _).mono ?_; rintro e w1 ⟨rfl, rfl⟩) | (go_at_call 40; refine (rbef_any _ _ a (by omega)).mono ?_; rintro e w' ⟨rfl, rfl⟩))
    go_loop [8, 9] (fun n i => ∃ k : Int, 1 ≤ k ∧ k ≤ m ∧ i = .int .i64 k ∧ n = .int .i64 (bef y + cum y k)) (fun _ i => (m - intOf i).toNat)
    case atStart => exact ⟨1, by omega, by omega, rfl, by have := c1.out; simp [this]⟩
    case round =>
      obtain ⟨k, hk0, hk, rfl, rfl⟩ := hrel
      have q0 := cum_bd y k
      by_cases hlt : k < m
      · have cs := Lib.hid (cum_succ y k a b (by omega) (by omega))
        have mk := mon_bd y k
        go_wp2_with (go_at_call 39; refine (rmon_any _ _ _).mono ?_; rintro e w2 ⟨rfl, rfl⟩)
        go_round
        case rel => exact ⟨k + 1, by omega, by omega, by go_num, by rw [cs.out]; go_num⟩
        case measure => simp [intOf]; omega
      · go_wp2
        go_ret2
        exact ⟨ret_two (by rw [H2.out]; unfold num; rw [show k = m by omega]) H3.out.symm, rfl⟩
end Go.Proofs.YtkbddelacjjapaaDoor.Cal
