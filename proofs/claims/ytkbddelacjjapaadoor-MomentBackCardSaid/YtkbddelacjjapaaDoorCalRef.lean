/-
  What the functions of package datakitref04 do (contracts by walks).
-/
import Derived.Test.YtkbddelacjjapaaDoorCalWalks
namespace Go.Proofs.YtkbddelacjjapaaDoor.Cal
open Go.RowKit
set_option linter.unusedVariables false
set_option linter.unusedSimpArgs false

set_option maxHeartbeats 4000000 in
/-- datakitref04.Month -/
theorem rmon_any (y m : Int) (w : World) : Calls Tryd.prog 39 #[.int .i64 y, .int .i64 m] w fun e w' => e = .returned (.int .i64 (mon y m)) ∧ w = w' := by
  by_cases h1 : y < 1
  · go_enter Tryd.func39, Tryd.ntmps39
    go_wp2
    go_ret
    exact ⟨ret_int (by unfold mon; rw [if_neg (by omega)]), rfl⟩
  by_cases h2 : 9999 < y
  · go_enter Tryd.func39, Tryd.ntmps39
    go_wp2
    go_ret
    exact ⟨ret_int (by unfold mon; rw [if_neg (by omega)]), rfl⟩
  go_enter Tryd.func39, Tryd.ntmps39
  go_wp2_with (go_at_call 51; refine (rleap_any _ _).mono ?_; rintro e w' ⟨rfl, rfl⟩)
  all_goals go_ret
  all_goals exact ⟨ret_int (by simp at *; unfold mon; repeat' split <;> (first | omega | simp_all)), rfl⟩
theorem rlen_any (y : Int) (w : World) (h1 : 1 ≤ y) (h2 : y ≤ 9999) : Calls Tryd.prog 52 #[.int .i64 y] w fun e w' => e = .returned (.int .i64 (len y)) ∧ w = w' := by
  have ce := cum_end y
  have co := cum_one y
  go_enter Tryd.func52, Tryd.ntmps52
  go_wp2_with fail
  go_loop [3, 4] (fun n i => ∃ m : Int, 1 ≤ m ∧ m ≤ 13 ∧ i = .int .i64 m ∧ n = .int .i64 (cum y m)) (fun _ i => (13 - intOf i).toNat)
  case atStart => exact ⟨1, by omega, by omega, rfl, by rw [co]⟩
  case round =>
    obtain ⟨m, hm1, hm2, rfl, rfl⟩ := hrel
    have cb := cum_bd y m
    by_cases hlt : m ≤ 12
    · have cs := cum_succ y m h1 h2 hm1 hlt
      have HS := Lib.hid cs
      have mb := mon_bd y m
      clear cs ce co
      go_wp2_with (go_at_call 39; refine (rmon_any _ _ _).mono ?_; rintro e w' ⟨rfl, rfl⟩)
      go_round
      case rel => exact ⟨m + 1, by omega, by omega, rfl, by rw [HS.out]⟩
      case measure => simp [intOf]; omega
    · obtain rfl : m = 13 := by omega
      clear co
      have HS := Lib.hid ce
      clear ce
      go_wp2
      go_ret
      exact ⟨ret_int HS.out, rfl⟩
/-- datakitref04.before -/
theorem rbef_any (y : Int) (w : World) (h1 : 1 ≤ y) (h2 : y ≤ 10000) : Calls Tryd.prog 40 #[.int .i64 y] w fun e w' => e = .returned (.int .i64 (bef y)) ∧ w = w' := by
  have b1 := bef_one
  go_enter Tryd.func40, Tryd.ntmps40
  go_wp2_with fail
  go_loop [3, 4] (fun n i => ∃ m : Int, 1 ≤ m ∧ m ≤ y ∧ i = .int .i64 m ∧ n = .int .i64 (bef m)) (fun _ i => (y - intOf i).toNat)
  case atStart => exact ⟨1, by omega, by omega, rfl, by rw [b1]⟩
  case round =>
    obtain ⟨m, hm1, hm2, rfl, rfl⟩ := hrel
    clear b1
    have cb := bef_bd m hm1 (by omega)
    by_cases hlt : m < y
    · have cs := bef_succ m hm1 (by omega)
      have HS := Lib.hid cs
      have mb := len_lo m
      clear cs
      go_wp2_with (go_at_call 52; refine (rlen_any _ _ (by omega) (by omega)).mono ?_; rintro e w' ⟨rfl, rfl⟩)
      go_round
      case rel => exact ⟨m + 1, by omega, by omega, rfl, by rw [HS.out]⟩
      case measure => simp [intOf]; omega
    · obtain rfl : m = y := by omega
      go_wp2
      go_ret
      exact ⟨rfl, rfl⟩

end Go.Proofs.YtkbddelacjjapaaDoor.Cal
