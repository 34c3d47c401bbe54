/-
  The law's walk: CalendarDays.
-/
import Derived.Test.YtnpdkajeoipmnaaCalLaws1
namespace Go.Proofs.Ytnpdkajeoipmnaa.Cal
open Go.RowKit

theorem date_is {y m d n : Int} {w : World} (h : Hid (dayB y m d = true)) (e : Hid (num y m d = n)) : Calls Try.prog 16 #[.int .i64 n] w fun e w' => e = .returned (.tuple #[.int .i64 y, .int .i64 m, .int .i64 d, .int .i64 0]) ∧ Below w.heap.size w w' :=
  (date_any n w).mono fun _ _ ⟨a, b⟩ => ⟨by obtain ⟨e1, e2, e3⟩ := dt_eq h.out e.out; have := num_bd h.out; have := e.out; rw [a, e1, e2, e3, dateE_in (by omega)], b⟩
theorem date_isnt {n : Int} {w : World} (h : Hid (¬ (0 ≤ n ∧ n ≤ 3652058))) : Calls Try.prog 16 #[.int .i64 n] w fun e w' => e = .returned (.tuple #[.int .i64 0, .int .i64 0, .int .i64 0, .int .i64 2]) ∧ Below w.heap.size w w' :=
  (date_any n w).mono fun _ _ ⟨a, b⟩ => ⟨by obtain ⟨e1, e2, e3⟩ := dt_out h.out; rw [a, e1, e2, e3, dateE_out h.out], b⟩
theorem day_is {y m d n : Int} {w : World} (h : Hid (dayB y m d = true)) (e : Hid (num y m d = n)) : Calls Try.prog 9 #[.int .i64 y, .int .i64 m, .int .i64 d] w fun e w' => e = .returned (.tuple #[.int .i64 n, .int .i64 0]) ∧ Below w.heap.size w w' :=
  (day_any y m d w).mono fun _ _ ⟨a, b⟩ => ⟨by rw [a]; unfold dayN dayE; rw [if_pos h.out, if_pos h.out, e.out], b⟩
theorem day_isnt {y m d : Int} {w : World} (h : Hid (dayB y m d = false)) : Calls Try.prog 9 #[.int .i64 y, .int .i64 m, .int .i64 d] w fun e w' => e = .returned (.tuple #[.int .i64 0, .int .i64 2]) ∧ Below w.heap.size w w' :=
  (day_any y m d w).mono fun _ _ ⟨a, b⟩ => ⟨by rw [a]; unfold dayN dayE; rw [h.out]; rfl, b⟩
theorem wd_in (n : Int) (w : World) (h : 0 ≤ n ∧ n ≤ 3652058) : Calls Try.prog 18 #[.int .i64 n] w fun e w' => e = .returned (.tuple #[.int .i64 (n % 7 + 1), .int .i64 0]) ∧ w = w' :=
  (wd_any n w).mono fun _ _ ⟨a, b⟩ => ⟨by rw [a]; unfold wdN; rw [if_pos h, dateE_in h], b⟩

set_option maxRecDepth 100000 in
set_option maxHeartbeats 4000000 in
theorem days_walk (n yy mm dd : Int) (w : World) : Calls Try.prog 6 #[.int .i64 n, .int .i64 yy, .int .i64 mm, .int .i64 dd] w fun e w' => e = .returned (.bool true) ∧ Below w.heap.size w w' := by
  by_cases c : 0 ≤ n ∧ n ≤ 3652058
  · obtain ⟨h0, h1⟩ := c
    obtain ⟨y, m, d, hok, hnum⟩ := exists_date n h0 h1
    obtain ⟨y1, y2, m1, m2, d1, d2⟩ := dayB_in hok
    have mb := mon_bd y m
    have HO := Lib.hid hok
    have HN := Lib.hid hnum
    clear hok hnum
    by_cases hl : n = 3652058
    · subst hl
      by_cases hB : dayB yy mm dd = true
      · have HB := Lib.hid hB
        obtain ⟨K, hK⟩ : ∃ K, num yy mm dd = K := ⟨_, rfl⟩
        have HR := Lib.hid hK
        clear hB hK
        go_enter Try.func6, Try.ntmps6
        have hbw : Below w.heap.size w w := Below.refl _ _
        go_wp2_with (first | (go_at_call 16; (with_reducible refine (date_is HB HR).mono ?_); rintro e w1 ⟨rfl, hb1⟩; replace hbw := bthen hbw hb1; clear hb1) | (go_at_call 9; (with_reducible refine (day_is HB HR).mono ?_); rintro e w1 ⟨rfl, hb1⟩; replace hbw := bthen hbw hb1; clear hb1) | (go_at_call 16; (with_reducible refine (date_is HO HN).mono ?_); rintro e w1 ⟨rfl, hb1⟩; replace hbw := bthen hbw hb1; clear hb1) | (go_at_call 9; (with_reducible refine (day_is HO HN).mono ?_); rintro e w1 ⟨rfl, hb1⟩; replace hbw := bthen hbw hb1; clear hb1) | (go_at_call 13; refine (mon_any _ _ _).mono ?_; rintro e w1 ⟨rfl, hb1⟩; replace hbw := bthen hbw hb1; clear hb1) | (go_at_call 15; refine (awake_any _).mono ?_; rintro e w1 ⟨rfl, hb1⟩; replace hbw := bthen hbw hb1; clear hb1))
        go_ret
        exact ⟨rfl, hbw⟩
      · have HB := Lib.hid (show dayB yy mm dd = false by simpa using hB)
        clear hB
        go_enter Try.func6, Try.ntmps6
        have hbw : Below w.heap.size w w := Below.refl _ _
        go_wp2_with (first | (go_at_call 9; (with_reducible refine (day_isnt HB).mono ?_); rintro e w1 ⟨rfl, hb1⟩; replace hbw := bthen hbw hb1; clear hb1) | (go_at_call 16; (with_reducible refine (date_is HO HN).mono ?_); rintro e w1 ⟨rfl, hb1⟩; replace hbw := bthen hbw hb1; clear hb1) | (go_at_call 9; (with_reducible refine (day_is HO HN).mono ?_); rintro e w1 ⟨rfl, hb1⟩; replace hbw := bthen hbw hb1; clear hb1) | (go_at_call 13; refine (mon_any _ _ _).mono ?_; rintro e w1 ⟨rfl, hb1⟩; replace hbw := bthen hbw hb1; clear hb1) | (go_at_call 15; refine (awake_any _).mono ?_; rintro e w1 ⟨rfl, hb1⟩; replace hbw := bthen hbw hb1; clear hb1))
        go_ret
        exact ⟨rfl, hbw⟩
    · have hl' : n < 3652058 := by omega
      have hnum := HN.out
      unfold num at hnum
      by_cases q1 : d < mon y m
      · have HO2 := Lib.hid (show dayB y m (d + 1) = true by rw [dayB_iff]; omega)
        have HN2 := Lib.hid (show num y m (d + 1) = n + 1 by unfold num; omega)
        have wdq : (n + 1) % 7 + 1 = (n % 7 + 1) % 7 + 1 := by omega
        clear hl hnum
        by_cases hB : dayB yy mm dd = true
        · have HB := Lib.hid hB
          obtain ⟨K, hK⟩ : ∃ K, num yy mm dd = K := ⟨_, rfl⟩
          have HR := Lib.hid hK
          clear hB hK
          go_enter Try.func6, Try.ntmps6
          have hbw : Below w.heap.size w w := Below.refl _ _
          go_wp2_with (first | (go_at_call 16; (with_reducible refine (date_is HB HR).mono ?_); rintro e w1 ⟨rfl, hb1⟩; replace hbw := bthen hbw hb1; clear hb1) | (go_at_call 9; (with_reducible refine (day_is HB HR).mono ?_); rintro e w1 ⟨rfl, hb1⟩; replace hbw := bthen hbw hb1; clear hb1) | (go_at_call 16; (with_reducible refine (date_is HO HN).mono ?_); rintro e w1 ⟨rfl, hb1⟩; replace hbw := bthen hbw hb1; clear hb1) | (go_at_call 9; (with_reducible refine (day_is HO HN).mono ?_); rintro e w1 ⟨rfl, hb1⟩; replace hbw := bthen hbw hb1; clear hb1) | (go_at_call 16; (with_reducible refine (date_is HO2 HN2).mono ?_); rintro e w1 ⟨rfl, hb1⟩; replace hbw := bthen hbw hb1; clear hb1) | (go_at_call 13; refine (mon_any _ _ _).mono ?_; rintro e w1 ⟨rfl, hb1⟩; replace hbw := bthen hbw hb1; clear hb1) | (go_at_call 18; refine (wd_in _ _ (by omega)).mono ?_; rintro e w1 ⟨rfl, rfl⟩) | (go_at_call 15; refine (awake_any _).mono ?_; rintro e w1 ⟨rfl, hb1⟩; replace hbw := bthen hbw hb1; clear hb1))
          go_ret
          exact ⟨rfl, hbw⟩
        · have HB := Lib.hid (show dayB yy mm dd = false by simpa using hB)
          clear hB
          go_enter Try.func6, Try.ntmps6
          have hbw : Below w.heap.size w w := Below.refl _ _
          go_wp2_with (first | (go_at_call 9; (with_reducible refine (day_isnt HB).mono ?_); rintro e w1 ⟨rfl, hb1⟩; replace hbw := bthen hbw hb1; clear hb1) | (go_at_call 16; (with_reducible refine (date_is HO HN).mono ?_); rintro e w1 ⟨rfl, hb1⟩; replace hbw := bthen hbw hb1; clear hb1) | (go_at_call 9; (with_reducible refine (day_is HO HN).mono ?_); rintro e w1 ⟨rfl, hb1⟩; replace hbw := bthen hbw hb1; clear hb1) | (go_at_call 16; (with_reducible refine (date_is HO2 HN2).mono ?_); rintro e w1 ⟨rfl, hb1⟩; replace hbw := bthen hbw hb1; clear hb1) | (go_at_call 13; refine (mon_any _ _ _).mono ?_; rintro e w1 ⟨rfl, hb1⟩; replace hbw := bthen hbw hb1; clear hb1) | (go_at_call 18; refine (wd_in _ _ (by omega)).mono ?_; rintro e w1 ⟨rfl, rfl⟩) | (go_at_call 15; refine (awake_any _).mono ?_; rintro e w1 ⟨rfl, hb1⟩; replace hbw := bthen hbw hb1; clear hb1))
          go_ret
          exact ⟨rfl, hbw⟩
      · have q1' : d = mon y m := by omega
        have cs := cum_succ y m y1 y2 m1 m2
        by_cases q2 : m < 12
        · have mp := mon_pos y (m + 1) y1 y2 (by omega) (by omega)
          have HO2 := Lib.hid (show dayB y (m + 1) 1 = true by rw [dayB_iff]; omega)
          have HN2 := Lib.hid (show num y (m + 1) 1 = n + 1 by unfold num; omega)
          have wdq : (n + 1) % 7 + 1 = (n % 7 + 1) % 7 + 1 := by omega
          clear hl hnum q1 cs mp d2
          subst q1'
          by_cases hB : dayB yy mm dd = true
          · have HB := Lib.hid hB
            obtain ⟨K, hK⟩ : ∃ K, num yy mm dd = K := ⟨_, rfl⟩
            have HR := Lib.hid hK
            clear hB hK
            go_enter Try.func6, Try.ntmps6
            have hbw : Below w.heap.size w w := Below.refl _ _
            go_wp2_with (first | (go_at_call 16; (with_reducible refine (date_is HB HR).mono ?_); rintro e w1 ⟨rfl, hb1⟩; replace hbw := bthen hbw hb1; clear hb1) | (go_at_call 9; (with_reducible refine (day_is HB HR).mono ?_); rintro e w1 ⟨rfl, hb1⟩; replace hbw := bthen hbw hb1; clear hb1) | (go_at_call 16; (with_reducible refine (date_is HO HN).mono ?_); rintro e w1 ⟨rfl, hb1⟩; replace hbw := bthen hbw hb1; clear hb1) | (go_at_call 9; (with_reducible refine (day_is HO HN).mono ?_); rintro e w1 ⟨rfl, hb1⟩; replace hbw := bthen hbw hb1; clear hb1) | (go_at_call 16; (with_reducible refine (date_is HO2 HN2).mono ?_); rintro e w1 ⟨rfl, hb1⟩; replace hbw := bthen hbw hb1; clear hb1) | (go_at_call 13; refine (mon_any _ _ _).mono ?_; rintro e w1 ⟨rfl, hb1⟩; replace hbw := bthen hbw hb1; clear hb1) | (go_at_call 18; refine (wd_in _ _ (by omega)).mono ?_; rintro e w1 ⟨rfl, rfl⟩) | (go_at_call 15; refine (awake_any _).mono ?_; rintro e w1 ⟨rfl, hb1⟩; replace hbw := bthen hbw hb1; clear hb1))
            go_ret
            exact ⟨rfl, hbw⟩
          · have HB := Lib.hid (show dayB yy mm dd = false by simpa using hB)
            clear hB
            go_enter Try.func6, Try.ntmps6
            have hbw : Below w.heap.size w w := Below.refl _ _
            go_wp2_with (first | (go_at_call 9; (with_reducible refine (day_isnt HB).mono ?_); rintro e w1 ⟨rfl, hb1⟩; replace hbw := bthen hbw hb1; clear hb1) | (go_at_call 16; (with_reducible refine (date_is HO HN).mono ?_); rintro e w1 ⟨rfl, hb1⟩; replace hbw := bthen hbw hb1; clear hb1) | (go_at_call 9; (with_reducible refine (day_is HO HN).mono ?_); rintro e w1 ⟨rfl, hb1⟩; replace hbw := bthen hbw hb1; clear hb1) | (go_at_call 16; (with_reducible refine (date_is HO2 HN2).mono ?_); rintro e w1 ⟨rfl, hb1⟩; replace hbw := bthen hbw hb1; clear hb1) | (go_at_call 13; refine (mon_any _ _ _).mono ?_; rintro e w1 ⟨rfl, hb1⟩; replace hbw := bthen hbw hb1; clear hb1) | (go_at_call 18; refine (wd_in _ _ (by omega)).mono ?_; rintro e w1 ⟨rfl, rfl⟩) | (go_at_call 15; refine (awake_any _).mono ?_; rintro e w1 ⟨rfl, hb1⟩; replace hbw := bthen hbw hb1; clear hb1))
            go_ret
            exact ⟨rfl, hbw⟩
        · obtain rfl : m = 12 := by omega
          have y3 : y < 9999 := by
            by_cases e : y = 9999
            · subst e
              have := bef_max
              have := bef_succ 9999 y1 y2
              have := cum_end 9999
              rw [show (9999 : Int) + 1 = 10000 by rfl] at *
              rw [show (12 : Int) + 1 = 13 by rfl] at *
              omega
            · omega
          have bs := bef_succ y y1 y2
          have ce := cum_end y
          have c1 := cum_one (y + 1)
          have mp := mon_pos (y + 1) 1 (by omega) (by omega) (by omega) (by omega)
          rw [show (12 : Int) + 1 = 13 by rfl] at cs
          have HO2 := Lib.hid (show dayB (y + 1) 1 1 = true by rw [dayB_iff]; omega)
          have HN2 := Lib.hid (show num (y + 1) 1 1 = n + 1 by unfold num; omega)
          have wdq : (n + 1) % 7 + 1 = (n % 7 + 1) % 7 + 1 := by omega
          clear hl hnum q1 q2 cs mp d2 bs ce c1
          subst q1'
          by_cases hB : dayB yy mm dd = true
          · have HB := Lib.hid hB
            obtain ⟨K, hK⟩ : ∃ K, num yy mm dd = K := ⟨_, rfl⟩
            have HR := Lib.hid hK
            clear hB hK
            go_enter Try.func6, Try.ntmps6
            have hbw : Below w.heap.size w w := Below.refl _ _
            go_wp2_with (first | (go_at_call 16; (with_reducible refine (date_is HB HR).mono ?_); rintro e w1 ⟨rfl, hb1⟩; replace hbw := bthen hbw hb1; clear hb1) | (go_at_call 9; (with_reducible refine (day_is HB HR).mono ?_); rintro e w1 ⟨rfl, hb1⟩; replace hbw := bthen hbw hb1; clear hb1) | (go_at_call 16; (with_reducible refine (date_is HO HN).mono ?_); rintro e w1 ⟨rfl, hb1⟩; replace hbw := bthen hbw hb1; clear hb1) | (go_at_call 9; (with_reducible refine (day_is HO HN).mono ?_); rintro e w1 ⟨rfl, hb1⟩; replace hbw := bthen hbw hb1; clear hb1) | (go_at_call 16; (with_reducible refine (date_is HO2 HN2).mono ?_); rintro e w1 ⟨rfl, hb1⟩; replace hbw := bthen hbw hb1; clear hb1) | (go_at_call 13; refine (mon_any _ _ _).mono ?_; rintro e w1 ⟨rfl, hb1⟩; replace hbw := bthen hbw hb1; clear hb1) | (go_at_call 18; refine (wd_in _ _ (by omega)).mono ?_; rintro e w1 ⟨rfl, rfl⟩) | (go_at_call 15; refine (awake_any _).mono ?_; rintro e w1 ⟨rfl, hb1⟩; replace hbw := bthen hbw hb1; clear hb1))
            go_ret
            exact ⟨rfl, hbw⟩
          · have HB := Lib.hid (show dayB yy mm dd = false by simpa using hB)
            clear hB
            go_enter Try.func6, Try.ntmps6
            have hbw : Below w.heap.size w w := Below.refl _ _
            go_wp2_with (first | (go_at_call 9; (with_reducible refine (day_isnt HB).mono ?_); rintro e w1 ⟨rfl, hb1⟩; replace hbw := bthen hbw hb1; clear hb1) | (go_at_call 16; (with_reducible refine (date_is HO HN).mono ?_); rintro e w1 ⟨rfl, hb1⟩; replace hbw := bthen hbw hb1; clear hb1) | (go_at_call 9; (with_reducible refine (day_is HO HN).mono ?_); rintro e w1 ⟨rfl, hb1⟩; replace hbw := bthen hbw hb1; clear hb1) | (go_at_call 16; (with_reducible refine (date_is HO2 HN2).mono ?_); rintro e w1 ⟨rfl, hb1⟩; replace hbw := bthen hbw hb1; clear hb1) | (go_at_call 13; refine (mon_any _ _ _).mono ?_; rintro e w1 ⟨rfl, hb1⟩; replace hbw := bthen hbw hb1; clear hb1) | (go_at_call 18; refine (wd_in _ _ (by omega)).mono ?_; rintro e w1 ⟨rfl, rfl⟩) | (go_at_call 15; refine (awake_any _).mono ?_; rintro e w1 ⟨rfl, hb1⟩; replace hbw := bthen hbw hb1; clear hb1))
            go_ret
            exact ⟨rfl, hbw⟩
  · have C := Lib.hid c
    by_cases cn : n < 0
    · clear c
      by_cases hB : dayB yy mm dd = true
      · have HB := Lib.hid hB
        obtain ⟨K, hK⟩ : ∃ K, num yy mm dd = K := ⟨_, rfl⟩
        have HR := Lib.hid hK
        clear hB hK
        go_enter Try.func6, Try.ntmps6
        have hbw : Below w.heap.size w w := Below.refl _ _
        go_wp2_with (first | (go_at_call 16; (with_reducible refine (date_is HB HR).mono ?_); rintro e w1 ⟨rfl, hb1⟩; replace hbw := bthen hbw hb1; clear hb1) | (go_at_call 9; (with_reducible refine (day_is HB HR).mono ?_); rintro e w1 ⟨rfl, hb1⟩; replace hbw := bthen hbw hb1; clear hb1) | (go_at_call 16; (with_reducible refine (date_isnt C).mono ?_); rintro e w1 ⟨rfl, hb1⟩; replace hbw := bthen hbw hb1; clear hb1) | (go_at_call 15; refine (awake_any _).mono ?_; rintro e w1 ⟨rfl, hb1⟩; replace hbw := bthen hbw hb1; clear hb1))
        go_ret
        exact ⟨rfl, hbw⟩
      · have HB := Lib.hid (show dayB yy mm dd = false by simpa using hB)
        clear hB
        go_enter Try.func6, Try.ntmps6
        have hbw : Below w.heap.size w w := Below.refl _ _
        go_wp2_with (first | (go_at_call 9; (with_reducible refine (day_isnt HB).mono ?_); rintro e w1 ⟨rfl, hb1⟩; replace hbw := bthen hbw hb1; clear hb1) | (go_at_call 16; (with_reducible refine (date_isnt C).mono ?_); rintro e w1 ⟨rfl, hb1⟩; replace hbw := bthen hbw hb1; clear hb1) | (go_at_call 15; refine (awake_any _).mono ?_; rintro e w1 ⟨rfl, hb1⟩; replace hbw := bthen hbw hb1; clear hb1))
        go_ret
        exact ⟨rfl, hbw⟩
    · have cn' : 3652058 < n := by omega
      clear c
      by_cases hB : dayB yy mm dd = true
      · have HB := Lib.hid hB
        obtain ⟨K, hK⟩ : ∃ K, num yy mm dd = K := ⟨_, rfl⟩
        have HR := Lib.hid hK
        clear hB hK
        go_enter Try.func6, Try.ntmps6
        have hbw : Below w.heap.size w w := Below.refl _ _
        go_wp2_with (first | (go_at_call 16; (with_reducible refine (date_is HB HR).mono ?_); rintro e w1 ⟨rfl, hb1⟩; replace hbw := bthen hbw hb1; clear hb1) | (go_at_call 9; (with_reducible refine (day_is HB HR).mono ?_); rintro e w1 ⟨rfl, hb1⟩; replace hbw := bthen hbw hb1; clear hb1) | (go_at_call 16; (with_reducible refine (date_isnt C).mono ?_); rintro e w1 ⟨rfl, hb1⟩; replace hbw := bthen hbw hb1; clear hb1) | (go_at_call 15; refine (awake_any _).mono ?_; rintro e w1 ⟨rfl, hb1⟩; replace hbw := bthen hbw hb1; clear hb1))
        go_ret
        exact ⟨rfl, hbw⟩
      · have HB := Lib.hid (show dayB yy mm dd = false by simpa using hB)
        clear hB
        go_enter Try.func6, Try.ntmps6
        have hbw : Below w.heap.size w w := Below.refl _ _
        go_wp2_with (first | (go_at_call 9; (with_reducible refine (day_isnt HB).mono ?_); rintro e w1 ⟨rfl, hb1⟩; replace hbw := bthen hbw hb1; clear hb1) | (go_at_call 16; (with_reducible refine (date_isnt C).mono ?_); rintro e w1 ⟨rfl, hb1⟩; replace hbw := bthen hbw hb1; clear hb1) | (go_at_call 15; refine (awake_any _).mono ?_; rintro e w1 ⟨rfl, hb1⟩; replace hbw := bthen hbw hb1; clear hb1))
        go_ret
        exact ⟨rfl, hbw⟩

end Go.Proofs.Ytnpdkajeoipmnaa.Cal
