/-
  The laws' walks: Tells, Dates, Adds.
-/
import Derived.Test.YtnpdkajeoipmnaaCalRefMore
namespace Go.Proofs.Ytnpdkajeoipmnaa.Cal
open Go.RowKit

theorem day_first (w : World) : Calls Try.prog 9 #[.int .i64 2024, .int .i64 2, .int .i64 29] w fun e w' => e = .returned (.tuple #[.int .i64 738944, .int .i64 0]) ∧ Below w.heap.size w w' :=
  (day_any 2024 2 29 w).mono fun _ _ ⟨a, b⟩ => ⟨by rw [a, show dayN 2024 2 29 = 738944 by decide, show dayE 2024 2 29 = 0 by decide], b⟩
theorem wd_first (w : World) : Calls Try.prog 18 #[.int .i64 738944] w fun e w' => e = .returned (.tuple #[.int .i64 4, .int .i64 0]) ∧ w = w' :=
  (wd_any 738944 w).mono fun _ _ ⟨a, b⟩ => ⟨by rw [a, show wdN 738944 = 4 by decide, show dateE 738944 = 0 by decide], b⟩
/-- awake -/
theorem awake_any (w : World) : Calls Try.prog 15 #[] w fun e w' => e = .returned (.bool true) ∧ Below w.heap.size w w' := by
  go_enter Try.func15, Try.ntmps15
  go_wp2_with (first | (go_at_call 9; refine (day_first _).mono ?_; rintro e w1 ⟨rfl, hb1⟩) | (go_at_call 18; refine (wd_first _).mono ?_; rintro e w' ⟨rfl, rfl⟩))
  go_ret
  exact ⟨rfl, hb1⟩
set_option maxHeartbeats 1000000 in
theorem tells_walk (y m d : Int) (w : World) : Calls Try.prog 3 #[.int .i64 y, .int .i64 m, .int .i64 d] w fun e w' => e = .returned (.bool true) ∧ Below w.heap.size w w' := by
  go_enter Try.func3, Try.ntmps3
  have hbw : Below w.heap.size w w := Below.refl _ _
  go_wp2_with (first | (go_at_call 9; refine (day_any _ _ _ _).mono ?_; rintro e w1 ⟨rfl, hb1⟩; replace hbw := bthen hbw hb1; clear hb1) | (go_at_call 10; refine (rday_any _ _ _ _).mono ?_; rintro e w1 ⟨rfl, rfl⟩) | (go_at_call 11; refine (leap_any _ _).mono ?_; rintro e w1 ⟨rfl, rfl⟩) | (go_at_call 12; refine (rleap_any _ _).mono ?_; rintro e w1 ⟨rfl, rfl⟩) | (go_at_call 13; refine (mon_any _ _ _).mono ?_; rintro e w1 ⟨rfl, hb1⟩; replace hbw := bthen hbw hb1; clear hb1) | (go_at_call 14; refine (rmon_any _ _ _).mono ?_; rintro e w1 ⟨rfl, rfl⟩) | (go_at_call 15; refine (awake_any _).mono ?_; rintro e w1 ⟨rfl, hb1⟩; replace hbw := bthen hbw hb1; clear hb1))
  go_ret
  exact ⟨rfl, hbw⟩
set_option maxHeartbeats 1000000 in
theorem dates_walk (n : Int) (w : World) : Calls Try.prog 4 #[.int .i64 n] w fun e w' => e = .returned (.bool true) ∧ Below w.heap.size w w' := by
  go_enter Try.func4, Try.ntmps4
  have hbw : Below w.heap.size w w := Below.refl _ _
  go_wp2_with (first | (go_at_call 16; refine (date_any _ _).mono ?_; rintro e w1 ⟨rfl, hb1⟩; replace hbw := bthen hbw hb1; clear hb1) | (go_at_call 17; refine (rdate_any _ _).mono ?_; rintro e w1 ⟨rfl, rfl⟩) | (go_at_call 18; refine (wd_any _ _).mono ?_; rintro e w1 ⟨rfl, rfl⟩) | (go_at_call 19; refine (rwd_any _ _).mono ?_; rintro e w1 ⟨rfl, rfl⟩) | (go_at_call 20; refine (wk_any _ _).mono ?_; rintro e w1 ⟨rfl, hb1⟩; replace hbw := bthen hbw hb1; clear hb1) | (go_at_call 21; refine (rwk_any _ _).mono ?_; rintro e w1 ⟨rfl, rfl⟩) | (go_at_call 15; refine (awake_any _).mono ?_; rintro e w1 ⟨rfl, hb1⟩; replace hbw := bthen hbw hb1; clear hb1))
  go_ret
  exact ⟨rfl, hbw⟩
set_option maxHeartbeats 1000000 in
theorem adds_walk (n k : Int) (w : World) : Calls Try.prog 5 #[.int .i64 n, .int .i64 k] w fun e w' => e = .returned (.bool true) ∧ Below w.heap.size w w' := by
  go_enter Try.func5, Try.ntmps5
  have hbw : Below w.heap.size w w := Below.refl _ _
  go_wp2_with (first | (go_at_call 22; refine (am_any _ _ _).mono ?_; rintro e w1 ⟨rfl, hb1⟩; replace hbw := bthen hbw hb1; clear hb1) | (go_at_call 23; refine (ram_any _ _ _).mono ?_; rintro e w1 ⟨rfl, rfl⟩) | (go_at_call 15; refine (awake_any _).mono ?_; rintro e w1 ⟨rfl, hb1⟩; replace hbw := bthen hbw hb1; clear hb1))
  go_ret
  exact ⟨rfl, hbw⟩

end Go.Proofs.Ytnpdkajeoipmnaa.Cal
