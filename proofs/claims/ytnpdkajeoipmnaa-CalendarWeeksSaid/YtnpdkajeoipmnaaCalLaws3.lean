/-
  The laws' walks: CalendarWeeks, CalendarMonths.
-/
import Derived.Test.YtnpdkajeoipmnaaCalLaws2
namespace Go.Proofs.Ytnpdkajeoipmnaa.Cal
open Go.RowKit

theorem yOf_is {t Y : Int} (h1 : 1 ≤ Y) (h2 : Y ≤ 9999) (h3 : bef Y ≤ t) (h4 : t < bef (Y + 1)) : yOf t = Y := by
  have := bef_bd Y h1 (by omega)
  have := bef_bd (Y + 1) (by omega) (by omega)
  obtain ⟨a, b⟩ := dt_ok (n := t) (by omega) (by omega)
  obtain ⟨c1, c2, _, _, _, _⟩ := dayB_in a
  obtain ⟨d1, d2, _, _⟩ := num_in a
  rw [b] at d1 d2
  by_cases c : yOf t < Y
  · have := bef_mono (yOf t + 1) Y (by omega); omega
  · by_cases c' : Y < yOf t
    · have := bef_mono (Y + 1) (yOf t) (by omega); omega
    · omega
/-- Y, W: year and week of the day n. -/
def WkIs (n Y W : Int) : Prop := (0 ≤ n ∧ n ≤ 3652058) ∧ (1 ≤ Y ∧ Y ≤ 9999) ∧ (bef Y ≤ th n ∧ th n < bef (Y + 1)) ∧ (th n - bef Y) / 7 + 1 = W
theorem week_is {n Y W : Int} {w : World} (h : Hid (WkIs n Y W)) : Calls Try.prog 20 #[.int .i64 n] w fun e w' => e = .returned (.tuple #[.int .i64 Y, .int .i64 W, .int .i64 0]) ∧ Below w.heap.size w w' :=
  (wk_any n w).mono fun _ _ ⟨a, b⟩ => ⟨by
    obtain ⟨h1, h2, h3, h4⟩ := h.out
    rw [a]; unfold wkY wkW; rw [if_pos h1, if_pos h1, yOf_is h2.1 h2.2 h3.1 h3.2, h4, dateE_in h1], b⟩
theorem week_ex (n : Int) (h0 : 0 ≤ n) (h1 : n ≤ 3652058) : ∃ Y W, WkIs n Y W := by
  have ht := th_in h0 h1
  have hy := dayB_in (dt_ok ht.1 ht.2).1
  have hb := num_in (dt_ok ht.1 ht.2).1
  rw [(dt_ok ht.1 ht.2).2] at hb
  exact ⟨_, _, ⟨h0, h1⟩, ⟨hy.1, hy.2.1⟩, ⟨hb.1, hb.2.1⟩, rfl⟩
theorem week_bd {n Y W : Int} (h : WkIs n Y W) : (1 ≤ Y ∧ Y ≤ 9999) ∧ (1 ≤ W ∧ W ≤ 53) := by
  obtain ⟨_, h2, h3, h4⟩ := h
  have := bef_succ Y h2.1 h2.2
  have := len_lo Y
  omega
theorem week_same {n Y W : Int} (h : WkIs n Y W) (hn : n < 3652058) (h7 : n % 7 + 1 < 7) : WkIs (n + 1) Y W := by
  obtain ⟨h1, h2, h3, h4⟩ := h
  have e : th (n + 1) = th n := by unfold th; omega
  exact ⟨by omega, h2, by rw [e]; exact h3, by rw [e]; exact h4⟩
theorem week_next {n Y W : Int} (h : WkIs n Y W) (h7 : n ≤ 3652058 - 7) : WkIs (n + 7) Y (W + 1) ∨ (WkIs (n + 7) (Y + 1) 1 ∧ 52 ≤ W ∧ Y + 1 ≤ 9999) := by
  obtain ⟨h1, h2, h3, h4⟩ := h
  have e : th (n + 7) = th n + 7 := by unfold th; omega
  have bs := bef_succ Y h2.1 h2.2
  have bl := len_lo Y
  by_cases c : th n + 7 < bef (Y + 1)
  · exact .inl ⟨by omega, h2, by omega, by omega⟩
  · have hy : Y < 9999 := by
      by_cases e : Y = 9999
      · subst e; have := bef_max; rw [show (9999 : Int) + 1 = 10000 by rfl] at *; unfold th at *; omega
      · omega
    have bs2 := bef_succ (Y + 1) (by omega) (by omega)
    have bl2 := len_lo (Y + 1)
    exact .inr ⟨⟨by omega, by omega, by omega, by omega⟩, by omega, by omega⟩
theorem week_four {Y : Int} (h1 : 1 ≤ Y) (h2 : Y ≤ 9999) : dayB Y 1 4 = true ∧ num Y 1 4 = bef Y + 3 ∧ WkIs (bef Y + 3) Y 1 := by
  have bs := bef_succ Y h1 h2
  have bl := len_lo Y
  have b0 := bef_bd Y h1 (by omega)
  have b1 := bef_bd (Y + 1) (by omega) (by omega)
  have mp := mon_pos Y 1 h1 h2 (by omega) (by omega)
  have c1 := cum_one Y
  refine ⟨by rw [dayB_iff]; omega, by unfold num; omega, by omega, ⟨h1, h2⟩, ?_, ?_⟩ <;> unfold th <;> omega

set_option maxRecDepth 100000 in
set_option maxHeartbeats 4000000 in
theorem weeks_walk (n : Int) (w : World) : Calls Try.prog 7 #[.int .i64 n] w fun e w' => e = .returned (.bool true) ∧ Below w.heap.size w w' := by
  by_cases c0 : n < 0
  · go_enter Try.func7, Try.ntmps7
    have hbw : Below w.heap.size w w := Below.refl _ _
    go_wp2_with (first | (go_at_call 15; refine (awake_any _).mono ?_; rintro e w1 ⟨rfl, hb1⟩; replace hbw := bthen hbw hb1; clear hb1))
    go_ret
    exact ⟨rfl, hbw⟩
  by_cases c1 : 3652051 < n
  · go_enter Try.func7, Try.ntmps7
    have hbw : Below w.heap.size w w := Below.refl _ _
    go_wp2_with (first | (go_at_call 15; refine (awake_any _).mono ?_; rintro e w1 ⟨rfl, hb1⟩; replace hbw := bthen hbw hb1; clear hb1))
    go_ret
    exact ⟨rfl, hbw⟩
  obtain ⟨Y, V, hw⟩ := week_ex n (by omega) (by omega)
  obtain ⟨⟨y1, y2⟩, v1, v2⟩ := week_bd hw
  obtain ⟨f1, f2, f3⟩ := week_four y1 y2
  have H0 := Lib.hid hw
  have F1 := Lib.hid f1
  obtain ⟨K, hK⟩ : ∃ K, bef Y + 3 = K := ⟨_, rfl⟩
  rw [hK] at f2 f3
  have F2 := Lib.hid f2
  have F3 := Lib.hid f3
  clear hK f1 f2 f3
  obtain ⟨A, X, ha⟩ := week_ex (n + 1) (by omega) (by omega)
  by_cases c7 : n % 7 + 1 < 7
  · have H1 := Lib.hid (week_same hw (by omega) c7)
    rcases week_next hw (by omega) with h2 | ⟨h2, w52, y3⟩
    · have H2 := Lib.hid h2
      clear hw h2 ha
      go_enter Try.func7, Try.ntmps7
      have hbw : Below w.heap.size w w := Below.refl _ _
      go_wp2_with (first | (go_at_call 18; refine (wd_in _ _ (by omega)).mono ?_; rintro e w1 ⟨rfl, rfl⟩) | (go_at_call 20; (with_reducible refine (week_is H0).mono ?_); rintro e w1 ⟨rfl, hb1⟩; replace hbw := bthen hbw hb1; clear hb1) | (go_at_call 20; (with_reducible refine (week_is H1).mono ?_); rintro e w1 ⟨rfl, hb1⟩; replace hbw := bthen hbw hb1; clear hb1) | (go_at_call 20; (with_reducible refine (week_is H2).mono ?_); rintro e w1 ⟨rfl, hb1⟩; replace hbw := bthen hbw hb1; clear hb1) | (go_at_call 9; (with_reducible refine (day_is F1 F2).mono ?_); rintro e w1 ⟨rfl, hb1⟩; replace hbw := bthen hbw hb1; clear hb1) | (go_at_call 20; (with_reducible refine (week_is F3).mono ?_); rintro e w1 ⟨rfl, hb1⟩; replace hbw := bthen hbw hb1; clear hb1) | (go_at_call 15; refine (awake_any _).mono ?_; rintro e w1 ⟨rfl, hb1⟩; replace hbw := bthen hbw hb1; clear hb1))
      go_ret
      exact ⟨rfl, hbw⟩
    · have H2 := Lib.hid h2
      clear hw h2 ha
      go_enter Try.func7, Try.ntmps7
      have hbw : Below w.heap.size w w := Below.refl _ _
      go_wp2_with (first | (go_at_call 18; refine (wd_in _ _ (by omega)).mono ?_; rintro e w1 ⟨rfl, rfl⟩) | (go_at_call 20; (with_reducible refine (week_is H0).mono ?_); rintro e w1 ⟨rfl, hb1⟩; replace hbw := bthen hbw hb1; clear hb1) | (go_at_call 20; (with_reducible refine (week_is H1).mono ?_); rintro e w1 ⟨rfl, hb1⟩; replace hbw := bthen hbw hb1; clear hb1) | (go_at_call 20; (with_reducible refine (week_is H2).mono ?_); rintro e w1 ⟨rfl, hb1⟩; replace hbw := bthen hbw hb1; clear hb1) | (go_at_call 9; (with_reducible refine (day_is F1 F2).mono ?_); rintro e w1 ⟨rfl, hb1⟩; replace hbw := bthen hbw hb1; clear hb1) | (go_at_call 20; (with_reducible refine (week_is F3).mono ?_); rintro e w1 ⟨rfl, hb1⟩; replace hbw := bthen hbw hb1; clear hb1) | (go_at_call 15; refine (awake_any _).mono ?_; rintro e w1 ⟨rfl, hb1⟩; replace hbw := bthen hbw hb1; clear hb1))
      go_ret
      exact ⟨rfl, hbw⟩
  · have H1 := Lib.hid ha
    rcases week_next hw (by omega) with h2 | ⟨h2, w52, y3⟩
    · have H2 := Lib.hid h2
      clear hw h2 ha
      go_enter Try.func7, Try.ntmps7
      have hbw : Below w.heap.size w w := Below.refl _ _
      go_wp2_with (first | (go_at_call 18; refine (wd_in _ _ (by omega)).mono ?_; rintro e w1 ⟨rfl, rfl⟩) | (go_at_call 20; (with_reducible refine (week_is H0).mono ?_); rintro e w1 ⟨rfl, hb1⟩; replace hbw := bthen hbw hb1; clear hb1) | (go_at_call 20; (with_reducible refine (week_is H1).mono ?_); rintro e w1 ⟨rfl, hb1⟩; replace hbw := bthen hbw hb1; clear hb1) | (go_at_call 20; (with_reducible refine (week_is H2).mono ?_); rintro e w1 ⟨rfl, hb1⟩; replace hbw := bthen hbw hb1; clear hb1) | (go_at_call 9; (with_reducible refine (day_is F1 F2).mono ?_); rintro e w1 ⟨rfl, hb1⟩; replace hbw := bthen hbw hb1; clear hb1) | (go_at_call 20; (with_reducible refine (week_is F3).mono ?_); rintro e w1 ⟨rfl, hb1⟩; replace hbw := bthen hbw hb1; clear hb1) | (go_at_call 15; refine (awake_any _).mono ?_; rintro e w1 ⟨rfl, hb1⟩; replace hbw := bthen hbw hb1; clear hb1))
      go_ret
      exact ⟨rfl, hbw⟩
    · have H2 := Lib.hid h2
      clear hw h2 ha
      go_enter Try.func7, Try.ntmps7
      have hbw : Below w.heap.size w w := Below.refl _ _
      go_wp2_with (first | (go_at_call 18; refine (wd_in _ _ (by omega)).mono ?_; rintro e w1 ⟨rfl, rfl⟩) | (go_at_call 20; (with_reducible refine (week_is H0).mono ?_); rintro e w1 ⟨rfl, hb1⟩; replace hbw := bthen hbw hb1; clear hb1) | (go_at_call 20; (with_reducible refine (week_is H1).mono ?_); rintro e w1 ⟨rfl, hb1⟩; replace hbw := bthen hbw hb1; clear hb1) | (go_at_call 20; (with_reducible refine (week_is H2).mono ?_); rintro e w1 ⟨rfl, hb1⟩; replace hbw := bthen hbw hb1; clear hb1) | (go_at_call 9; (with_reducible refine (day_is F1 F2).mono ?_); rintro e w1 ⟨rfl, hb1⟩; replace hbw := bthen hbw hb1; clear hb1) | (go_at_call 20; (with_reducible refine (week_is F3).mono ?_); rintro e w1 ⟨rfl, hb1⟩; replace hbw := bthen hbw hb1; clear hb1) | (go_at_call 15; refine (awake_any _).mono ?_; rintro e w1 ⟨rfl, hb1⟩; replace hbw := bthen hbw hb1; clear hb1))
      go_ret
      exact ⟨rfl, hbw⟩

/-- The day with the number x lies k months behind the day with the number n. -/
def AmIs (Y M D k Y' M' D' : Int) : Prop := (Y' - 1) * 12 + M' - 1 = (Y - 1) * 12 + M - 1 + k ∧ D' = min D (mon Y' M')
theorem am_is {n Y M D k x Y' M' D' : Int} {w : World} (ho : Hid (dayB Y M D = true)) (hn : Hid (num Y M D = n)) (ho' : Hid (dayB Y' M' D' = true)) (hn' : Hid (num Y' M' D' = x)) (h : Hid (AmIs Y M D k Y' M' D')) : Calls Try.prog 22 #[.int .i64 n, .int .i64 k] w fun e w' => e = .returned (.tuple #[.int .i64 x, .int .i64 0]) ∧ Below w.heap.size w w' :=
  (am_any n k w).mono fun _ _ ⟨a, b⟩ => ⟨by
    obtain ⟨h1, h2⟩ := h.out
    obtain ⟨e1, e2, e3⟩ := dt_eq ho.out hn.out
    obtain ⟨y1, y2, m1, m2, _, _⟩ := dayB_in ho'.out
    obtain ⟨u1, u2, u3, u4, _, _⟩ := dayB_in ho.out
    have nb := num_bd ho.out
    have hn2 := hn.out
    have em : mo n k = (Y' - 1) * 12 + M' - 1 := by unfold mo; rw [e1, e2]; omega
    have ey : mo n k / 12 + 1 = Y' := by omega
    have emm : mo n k % 12 + 1 = M' := by omega
    have hi : AmIn n k (mo n k) := ⟨by omega, by omega, by omega⟩
    obtain ⟨f1, f2⟩ := am_yes hi
    rw [a, f1, f2, ey, emm, e3, ← h2]; unfold dayN dayE; rw [if_pos ho'.out, if_pos ho'.out, hn'.out], b⟩
theorem am_isnt {n Y M D k : Int} {w : World} (ho : Hid (dayB Y M D = true)) (hn : Hid (num Y M D = n)) (h : Hid ((Y - 1) * 12 + M - 1 + k < 0 ∨ 119988 ≤ (Y - 1) * 12 + M - 1 + k)) : Calls Try.prog 22 #[.int .i64 n, .int .i64 k] w fun e w' => e = .returned (.tuple #[.int .i64 0, .int .i64 2]) ∧ Below w.heap.size w w' :=
  (am_any n k w).mono fun _ _ ⟨a, b⟩ => ⟨by
    obtain ⟨e1, e2, e3⟩ := dt_eq ho.out hn.out
    have em : mo n k = (Y - 1) * 12 + M - 1 + k := by unfold mo; rw [e1, e2]
    have hh := h.out
    by_cases q : AmIn n k (mo n k)
    · obtain ⟨f1, f2⟩ := am_yes q
      have q3 := q.2.2
      obtain ⟨g1, g2⟩ := day_far (y := mo n k / 12 + 1) (m := mo n k % 12 + 1) (d := dOf n) (by omega)
      rw [a, f1, f2, g1, g2]
    · obtain ⟨f1, f2⟩ := am_no q
      rw [a, f1, f2], b⟩
theorem am_out {n k : Int} {w : World} (h : Hid (¬ (0 ≤ n ∧ n ≤ 3652058))) : Calls Try.prog 22 #[.int .i64 n, .int .i64 k] w fun e w' => e = .returned (.tuple #[.int .i64 0, .int .i64 2]) ∧ Below w.heap.size w w' :=
  (am_any n k w).mono fun _ _ ⟨a, b⟩ => ⟨by
    obtain ⟨f1, f2⟩ := am_no (n := n) (k := k) (fun q => h.out q.1)
    rw [a, f1, f2], b⟩
theorem am_ex {Y M D k : Int} (h1 : 1 ≤ D) (h : 0 ≤ (Y - 1) * 12 + M - 1 + k ∧ (Y - 1) * 12 + M - 1 + k < 119988) : ∃ Y' M' D', AmIs Y M D k Y' M' D' ∧ dayB Y' M' D' = true ∧ D' ≤ D ∧ (D ≤ 28 → D' = D) := by
  have mp := mon_pos (((Y - 1) * 12 + M - 1 + k) / 12 + 1) (((Y - 1) * 12 + M - 1 + k) % 12 + 1) (by omega) (by omega) (by omega) (by omega)
  exact ⟨((Y - 1) * 12 + M - 1 + k) / 12 + 1, ((Y - 1) * 12 + M - 1 + k) % 12 + 1, _, ⟨by omega, rfl⟩, by rw [dayB_iff]; omega, by omega, by omega⟩

set_option maxRecDepth 100000 in
set_option maxHeartbeats 4000000 in
/-- The last part, from the day x on (its date: Y', M', D'). -/
theorem months_walk (n a b : Int) (w : World) : Calls Try.prog 8 #[.int .i64 n, .int .i64 a, .int .i64 b] w fun e w' => e = .returned (.bool true) ∧ Below w.heap.size w w' := by
  by_cases c : 0 ≤ n ∧ n ≤ 3652058
  · obtain ⟨h0, h1⟩ := c
    obtain ⟨Y, M, D, hok, hnum⟩ := exists_date n h0 h1
    obtain ⟨y1, y2, m1, m2, d1, d2⟩ := dayB_in hok
    have mb := mon_bd Y M
    have d3 : D ≤ 31 := by omega
    have HO := Lib.hid hok
    have HN := Lib.hid hnum
    have HZ : Hid (AmIs Y M D 0 Y M D) := Lib.hid ⟨by omega, by omega⟩
    clear hok hnum d2 mb
    by_cases a1 : a < -200000
    · go_enter Try.func8, Try.ntmps8
      have hbw : Below w.heap.size w w := Below.refl _ _
      go_wp2_with (first | (go_at_call 22; (with_reducible refine (am_is HO HN HO HN HZ).mono ?_); rintro e w1 ⟨rfl, hb1⟩; replace hbw := bthen hbw hb1; clear hb1) | (go_at_call 16; (with_reducible refine (date_is HO HN).mono ?_); rintro e w1 ⟨rfl, hb1⟩; replace hbw := bthen hbw hb1; clear hb1) | (go_at_call 15; refine (awake_any _).mono ?_; rintro e w1 ⟨rfl, hb1⟩; replace hbw := bthen hbw hb1; clear hb1))
      go_ret
      exact ⟨rfl, hbw⟩
    by_cases a2 : 200000 < a
    · go_enter Try.func8, Try.ntmps8
      have hbw : Below w.heap.size w w := Below.refl _ _
      go_wp2_with (first | (go_at_call 22; (with_reducible refine (am_is HO HN HO HN HZ).mono ?_); rintro e w1 ⟨rfl, hb1⟩; replace hbw := bthen hbw hb1; clear hb1) | (go_at_call 16; (with_reducible refine (date_is HO HN).mono ?_); rintro e w1 ⟨rfl, hb1⟩; replace hbw := bthen hbw hb1; clear hb1) | (go_at_call 15; refine (awake_any _).mono ?_; rintro e w1 ⟨rfl, hb1⟩; replace hbw := bthen hbw hb1; clear hb1))
      go_ret
      exact ⟨rfl, hbw⟩
    by_cases b1 : b < -200000
    · go_enter Try.func8, Try.ntmps8
      have hbw : Below w.heap.size w w := Below.refl _ _
      go_wp2_with (first | (go_at_call 22; (with_reducible refine (am_is HO HN HO HN HZ).mono ?_); rintro e w1 ⟨rfl, hb1⟩; replace hbw := bthen hbw hb1; clear hb1) | (go_at_call 16; (with_reducible refine (date_is HO HN).mono ?_); rintro e w1 ⟨rfl, hb1⟩; replace hbw := bthen hbw hb1; clear hb1) | (go_at_call 15; refine (awake_any _).mono ?_; rintro e w1 ⟨rfl, hb1⟩; replace hbw := bthen hbw hb1; clear hb1))
      go_ret
      exact ⟨rfl, hbw⟩
    by_cases b2 : 200000 < b
    · go_enter Try.func8, Try.ntmps8
      have hbw : Below w.heap.size w w := Below.refl _ _
      go_wp2_with (first | (go_at_call 22; (with_reducible refine (am_is HO HN HO HN HZ).mono ?_); rintro e w1 ⟨rfl, hb1⟩; replace hbw := bthen hbw hb1; clear hb1) | (go_at_call 16; (with_reducible refine (date_is HO HN).mono ?_); rintro e w1 ⟨rfl, hb1⟩; replace hbw := bthen hbw hb1; clear hb1) | (go_at_call 15; refine (awake_any _).mono ?_; rintro e w1 ⟨rfl, hb1⟩; replace hbw := bthen hbw hb1; clear hb1))
      go_ret
      exact ⟨rfl, hbw⟩
    by_cases ca : (Y - 1) * 12 + M - 1 + a < 0 ∨ 119988 ≤ (Y - 1) * 12 + M - 1 + a
    · have HC := Lib.hid ca
      clear ca
      have az : a ≠ 0 ∨ a = 0 := by omega
      go_enter Try.func8, Try.ntmps8
      have hbw : Below w.heap.size w w := Below.refl _ _
      go_wp2_with (first | (go_at_call 22; (with_reducible refine (am_is HO HN HO HN HZ).mono ?_); rintro e w1 ⟨rfl, hb1⟩; replace hbw := bthen hbw hb1; clear hb1) | (go_at_call 22; (with_reducible refine (am_isnt HO HN HC).mono ?_); rintro e w1 ⟨rfl, hb1⟩; replace hbw := bthen hbw hb1; clear hb1) | (go_at_call 16; (with_reducible refine (date_is HO HN).mono ?_); rintro e w1 ⟨rfl, hb1⟩; replace hbw := bthen hbw hb1; clear hb1) | (go_at_call 15; refine (awake_any _).mono ?_; rintro e w1 ⟨rfl, hb1⟩; replace hbw := bthen hbw hb1; clear hb1))
      go_ret
      exact ⟨rfl, hbw⟩
    obtain ⟨Y', M', D', hA, hO', q1, q2⟩ := am_ex (Y := Y) (M := M) (k := a) d1 (by omega)
    obtain ⟨x, hx⟩ : ∃ x, num Y' M' D' = x := ⟨_, rfl⟩
    obtain ⟨y1', y2', m1', m2', d1', d2'⟩ := dayB_in hO'
    obtain ⟨hA1, hA2⟩ := hA
    have HA := Lib.hid (show AmIs Y M D a Y' M' D' from ⟨hA1, hA2⟩)
    have HO' := Lib.hid hO'
    have HX := Lib.hid hx
    clear hO' hx d2'
    by_cases hq : a.tmod 12 = 0
    · obtain ⟨q, rfl⟩ := Int.dvd_of_tmod_eq_zero hq
      obtain rfl : M = M' := by omega
      have hq' : ((12 * q).tmod 12 == 0) = true := by simp [hq]
      clear hq
      by_cases q28 : D ≤ 28
      · obtain rfl : D = D' := (q2 q28).symm
        clear q2
        by_cases cb : (Y' - 1) * 12 + M - 1 + b < 0 ∨ 119988 ≤ (Y' - 1) * 12 + M - 1 + b
        · have HB := Lib.hid cb
          have HB2 : Hid ((Y - 1) * 12 + M - 1 + (12 * q + b) < 0 ∨ 119988 ≤ (Y - 1) * 12 + M - 1 + (12 * q + b)) := Lib.hid (by omega)
          clear cb hA1 hA2
          go_enter Try.func8, Try.ntmps8
          have hbw : Below w.heap.size w w := Below.refl _ _
          go_wp2_with (first | (go_at_call 22; (with_reducible refine (am_is HO HN HO HN HZ).mono ?_); rintro e w1 ⟨rfl, hb1⟩; replace hbw := bthen hbw hb1; clear hb1) | (go_at_call 22; (with_reducible refine (am_is HO HN HO' HX HA).mono ?_); rintro e w1 ⟨rfl, hb1⟩; replace hbw := bthen hbw hb1; clear hb1) | (go_at_call 22; (with_reducible refine (am_isnt HO' HX HB).mono ?_); rintro e w1 ⟨rfl, hb1⟩; replace hbw := bthen hbw hb1; clear hb1) | (go_at_call 22; (with_reducible refine (am_isnt HO HN HB2).mono ?_); rintro e w1 ⟨rfl, hb1⟩; replace hbw := bthen hbw hb1; clear hb1) | (go_at_call 16; (with_reducible refine (date_is HO HN).mono ?_); rintro e w1 ⟨rfl, hb1⟩; replace hbw := bthen hbw hb1; clear hb1) | (go_at_call 16; (with_reducible refine (date_is HO' HX).mono ?_); rintro e w1 ⟨rfl, hb1⟩; replace hbw := bthen hbw hb1; clear hb1) | (go_at_call 15; refine (awake_any _).mono ?_; rintro e w1 ⟨rfl, hb1⟩; replace hbw := bthen hbw hb1; clear hb1))
          go_ret
          exact ⟨rfl, hbw⟩
        · obtain ⟨Y2, M2, D2, hB, hO2, _, _⟩ := am_ex (Y := Y') (M := M) (k := b) d1' (by omega)
          obtain ⟨y, hy⟩ : ∃ y, num Y2 M2 D2 = y := ⟨_, rfl⟩
          obtain ⟨Y3, M3, D3, hB3, hO3, _, _⟩ := am_ex (Y := Y) (M := M) (k := 12 * q + b) d1 (by omega)
          obtain ⟨z, hz⟩ : ∃ z, num Y3 M3 D3 = z := ⟨_, rfl⟩
          have HB := Lib.hid hB
          have HB3 := Lib.hid hB3
          have HO2 := Lib.hid hO2
          have HO3 := Lib.hid hO3
          have HY := Lib.hid hy
          have HZ3 := Lib.hid hz
          have e : y = z := by
            obtain ⟨p1, p2⟩ := hB
            obtain ⟨r1, r2⟩ := hB3
            obtain ⟨s1, s2, s3, s4, _, _⟩ := dayB_in hO2
            obtain ⟨t1, t2, t3, t4, _, _⟩ := dayB_in hO3
            obtain rfl : Y3 = Y2 := by omega
            obtain rfl : M3 = M2 := by omega
            rw [← hy, ← hz, p2, r2]
          clear hB hB3 hO2 hO3 hy hz cb hA1 hA2
          subst e
          go_enter Try.func8, Try.ntmps8
          have hbw : Below w.heap.size w w := Below.refl _ _
          go_wp2_with (first | (go_at_call 22; (with_reducible refine (am_is HO HN HO HN HZ).mono ?_); rintro e w1 ⟨rfl, hb1⟩; replace hbw := bthen hbw hb1; clear hb1) | (go_at_call 22; (with_reducible refine (am_is HO HN HO' HX HA).mono ?_); rintro e w1 ⟨rfl, hb1⟩; replace hbw := bthen hbw hb1; clear hb1) | (go_at_call 22; (with_reducible refine (am_is HO' HX HO2 HY HB).mono ?_); rintro e w1 ⟨rfl, hb1⟩; replace hbw := bthen hbw hb1; clear hb1) | (go_at_call 22; (with_reducible refine (am_is HO HN HO3 HZ3 HB3).mono ?_); rintro e w1 ⟨rfl, hb1⟩; replace hbw := bthen hbw hb1; clear hb1) | (go_at_call 16; (with_reducible refine (date_is HO HN).mono ?_); rintro e w1 ⟨rfl, hb1⟩; replace hbw := bthen hbw hb1; clear hb1) | (go_at_call 16; (with_reducible refine (date_is HO' HX).mono ?_); rintro e w1 ⟨rfl, hb1⟩; replace hbw := bthen hbw hb1; clear hb1) | (go_at_call 15; refine (awake_any _).mono ?_; rintro e w1 ⟨rfl, hb1⟩; replace hbw := bthen hbw hb1; clear hb1))
          go_ret
          exact ⟨rfl, hbw⟩
      · have q28' : 28 < D := by omega
        clear q2 q28
        by_cases cb : (Y' - 1) * 12 + M - 1 + b < 0 ∨ 119988 ≤ (Y' - 1) * 12 + M - 1 + b
        · have HB := Lib.hid cb
          have HB2 : Hid ((Y - 1) * 12 + M - 1 + (12 * q + b) < 0 ∨ 119988 ≤ (Y - 1) * 12 + M - 1 + (12 * q + b)) := Lib.hid (by omega)
          clear cb hA1 hA2
          go_enter Try.func8, Try.ntmps8
          have hbw : Below w.heap.size w w := Below.refl _ _
          go_wp2_with (first | (go_at_call 22; (with_reducible refine (am_is HO HN HO HN HZ).mono ?_); rintro e w1 ⟨rfl, hb1⟩; replace hbw := bthen hbw hb1; clear hb1) | (go_at_call 22; (with_reducible refine (am_is HO HN HO' HX HA).mono ?_); rintro e w1 ⟨rfl, hb1⟩; replace hbw := bthen hbw hb1; clear hb1) | (go_at_call 22; (with_reducible refine (am_isnt HO' HX HB).mono ?_); rintro e w1 ⟨rfl, hb1⟩; replace hbw := bthen hbw hb1; clear hb1) | (go_at_call 22; (with_reducible refine (am_isnt HO HN HB2).mono ?_); rintro e w1 ⟨rfl, hb1⟩; replace hbw := bthen hbw hb1; clear hb1) | (go_at_call 16; (with_reducible refine (date_is HO HN).mono ?_); rintro e w1 ⟨rfl, hb1⟩; replace hbw := bthen hbw hb1; clear hb1) | (go_at_call 16; (with_reducible refine (date_is HO' HX).mono ?_); rintro e w1 ⟨rfl, hb1⟩; replace hbw := bthen hbw hb1; clear hb1) | (go_at_call 15; refine (awake_any _).mono ?_; rintro e w1 ⟨rfl, hb1⟩; replace hbw := bthen hbw hb1; clear hb1))
          go_ret
          exact ⟨rfl, hbw⟩
        · obtain ⟨Y2, M2, D2, hB, hO2, _, _⟩ := am_ex (Y := Y') (M := M) (k := b) d1' (by omega)
          obtain ⟨y, hy⟩ : ∃ y, num Y2 M2 D2 = y := ⟨_, rfl⟩
          obtain ⟨Y3, M3, D3, hB3, hO3, _, _⟩ := am_ex (Y := Y) (M := M) (k := 12 * q + b) d1 (by omega)
          obtain ⟨z, hz⟩ : ∃ z, num Y3 M3 D3 = z := ⟨_, rfl⟩
          have HB := Lib.hid hB
          have HB3 := Lib.hid hB3
          have HO2 := Lib.hid hO2
          have HO3 := Lib.hid hO3
          have HY := Lib.hid hy
          have HZ3 := Lib.hid hz
          clear hB hB3 hO2 hO3 hy hz cb hA1 hA2
          go_enter Try.func8, Try.ntmps8
          have hbw : Below w.heap.size w w := Below.refl _ _
          go_wp2_with (first | (go_at_call 22; (with_reducible refine (am_is HO HN HO HN HZ).mono ?_); rintro e w1 ⟨rfl, hb1⟩; replace hbw := bthen hbw hb1; clear hb1) | (go_at_call 22; (with_reducible refine (am_is HO HN HO' HX HA).mono ?_); rintro e w1 ⟨rfl, hb1⟩; replace hbw := bthen hbw hb1; clear hb1) | (go_at_call 22; (with_reducible refine (am_is HO' HX HO2 HY HB).mono ?_); rintro e w1 ⟨rfl, hb1⟩; replace hbw := bthen hbw hb1; clear hb1) | (go_at_call 22; (with_reducible refine (am_is HO HN HO3 HZ3 HB3).mono ?_); rintro e w1 ⟨rfl, hb1⟩; replace hbw := bthen hbw hb1; clear hb1) | (go_at_call 16; (with_reducible refine (date_is HO HN).mono ?_); rintro e w1 ⟨rfl, hb1⟩; replace hbw := bthen hbw hb1; clear hb1) | (go_at_call 16; (with_reducible refine (date_is HO' HX).mono ?_); rintro e w1 ⟨rfl, hb1⟩; replace hbw := bthen hbw hb1; clear hb1) | (go_at_call 15; refine (awake_any _).mono ?_; rintro e w1 ⟨rfl, hb1⟩; replace hbw := bthen hbw hb1; clear hb1))
          go_ret
          exact ⟨rfl, hbw⟩
    
    · have hq' : (a.tmod 12 == 0) = false := by simp [hq]
      clear hq
      by_cases q28 : D ≤ 28
      · obtain rfl : D = D' := (q2 q28).symm
        clear q2
        by_cases cb : (Y' - 1) * 12 + M' - 1 + b < 0 ∨ 119988 ≤ (Y' - 1) * 12 + M' - 1 + b
        · have HB := Lib.hid cb
          have HB2 : Hid ((Y - 1) * 12 + M - 1 + (a + b) < 0 ∨ 119988 ≤ (Y - 1) * 12 + M - 1 + (a + b)) := Lib.hid (by omega)
          clear cb hA1 hA2
          go_enter Try.func8, Try.ntmps8
          have hbw : Below w.heap.size w w := Below.refl _ _
          go_wp2_with (first | (go_at_call 22; (with_reducible refine (am_is HO HN HO HN HZ).mono ?_); rintro e w1 ⟨rfl, hb1⟩; replace hbw := bthen hbw hb1; clear hb1) | (go_at_call 22; (with_reducible refine (am_is HO HN HO' HX HA).mono ?_); rintro e w1 ⟨rfl, hb1⟩; replace hbw := bthen hbw hb1; clear hb1) | (go_at_call 22; (with_reducible refine (am_isnt HO' HX HB).mono ?_); rintro e w1 ⟨rfl, hb1⟩; replace hbw := bthen hbw hb1; clear hb1) | (go_at_call 22; (with_reducible refine (am_isnt HO HN HB2).mono ?_); rintro e w1 ⟨rfl, hb1⟩; replace hbw := bthen hbw hb1; clear hb1) | (go_at_call 16; (with_reducible refine (date_is HO HN).mono ?_); rintro e w1 ⟨rfl, hb1⟩; replace hbw := bthen hbw hb1; clear hb1) | (go_at_call 16; (with_reducible refine (date_is HO' HX).mono ?_); rintro e w1 ⟨rfl, hb1⟩; replace hbw := bthen hbw hb1; clear hb1) | (go_at_call 15; refine (awake_any _).mono ?_; rintro e w1 ⟨rfl, hb1⟩; replace hbw := bthen hbw hb1; clear hb1))
          go_ret
          exact ⟨rfl, hbw⟩
        · obtain ⟨Y2, M2, D2, hB, hO2, _, _⟩ := am_ex (Y := Y') (M := M') (k := b) d1' (by omega)
          obtain ⟨y, hy⟩ : ∃ y, num Y2 M2 D2 = y := ⟨_, rfl⟩
          obtain ⟨Y3, M3, D3, hB3, hO3, _, _⟩ := am_ex (Y := Y) (M := M) (k := a + b) d1 (by omega)
          obtain ⟨z, hz⟩ : ∃ z, num Y3 M3 D3 = z := ⟨_, rfl⟩
          have HB := Lib.hid hB
          have HB3 := Lib.hid hB3
          have HO2 := Lib.hid hO2
          have HO3 := Lib.hid hO3
          have HY := Lib.hid hy
          have HZ3 := Lib.hid hz
          have e : y = z := by
            obtain ⟨p1, p2⟩ := hB
            obtain ⟨r1, r2⟩ := hB3
            obtain ⟨s1, s2, s3, s4, _, _⟩ := dayB_in hO2
            obtain ⟨t1, t2, t3, t4, _, _⟩ := dayB_in hO3
            obtain rfl : Y3 = Y2 := by omega
            obtain rfl : M3 = M2 := by omega
            rw [← hy, ← hz, p2, r2]
          clear hB hB3 hO2 hO3 hy hz cb hA1 hA2
          subst e
          go_enter Try.func8, Try.ntmps8
          have hbw : Below w.heap.size w w := Below.refl _ _
          go_wp2_with (first | (go_at_call 22; (with_reducible refine (am_is HO HN HO HN HZ).mono ?_); rintro e w1 ⟨rfl, hb1⟩; replace hbw := bthen hbw hb1; clear hb1) | (go_at_call 22; (with_reducible refine (am_is HO HN HO' HX HA).mono ?_); rintro e w1 ⟨rfl, hb1⟩; replace hbw := bthen hbw hb1; clear hb1) | (go_at_call 22; (with_reducible refine (am_is HO' HX HO2 HY HB).mono ?_); rintro e w1 ⟨rfl, hb1⟩; replace hbw := bthen hbw hb1; clear hb1) | (go_at_call 22; (with_reducible refine (am_is HO HN HO3 HZ3 HB3).mono ?_); rintro e w1 ⟨rfl, hb1⟩; replace hbw := bthen hbw hb1; clear hb1) | (go_at_call 16; (with_reducible refine (date_is HO HN).mono ?_); rintro e w1 ⟨rfl, hb1⟩; replace hbw := bthen hbw hb1; clear hb1) | (go_at_call 16; (with_reducible refine (date_is HO' HX).mono ?_); rintro e w1 ⟨rfl, hb1⟩; replace hbw := bthen hbw hb1; clear hb1) | (go_at_call 15; refine (awake_any _).mono ?_; rintro e w1 ⟨rfl, hb1⟩; replace hbw := bthen hbw hb1; clear hb1))
          go_ret
          exact ⟨rfl, hbw⟩
      · have q28' : 28 < D := by omega
        clear q2 q28
        by_cases cb : (Y' - 1) * 12 + M' - 1 + b < 0 ∨ 119988 ≤ (Y' - 1) * 12 + M' - 1 + b
        · have HB := Lib.hid cb
          have HB2 : Hid ((Y - 1) * 12 + M - 1 + (a + b) < 0 ∨ 119988 ≤ (Y - 1) * 12 + M - 1 + (a + b)) := Lib.hid (by omega)
          clear cb hA1 hA2
          go_enter Try.func8, Try.ntmps8
          have hbw : Below w.heap.size w w := Below.refl _ _
          go_wp2_with (first | (go_at_call 22; (with_reducible refine (am_is HO HN HO HN HZ).mono ?_); rintro e w1 ⟨rfl, hb1⟩; replace hbw := bthen hbw hb1; clear hb1) | (go_at_call 22; (with_reducible refine (am_is HO HN HO' HX HA).mono ?_); rintro e w1 ⟨rfl, hb1⟩; replace hbw := bthen hbw hb1; clear hb1) | (go_at_call 22; (with_reducible refine (am_isnt HO' HX HB).mono ?_); rintro e w1 ⟨rfl, hb1⟩; replace hbw := bthen hbw hb1; clear hb1) | (go_at_call 22; (with_reducible refine (am_isnt HO HN HB2).mono ?_); rintro e w1 ⟨rfl, hb1⟩; replace hbw := bthen hbw hb1; clear hb1) | (go_at_call 16; (with_reducible refine (date_is HO HN).mono ?_); rintro e w1 ⟨rfl, hb1⟩; replace hbw := bthen hbw hb1; clear hb1) | (go_at_call 16; (with_reducible refine (date_is HO' HX).mono ?_); rintro e w1 ⟨rfl, hb1⟩; replace hbw := bthen hbw hb1; clear hb1) | (go_at_call 15; refine (awake_any _).mono ?_; rintro e w1 ⟨rfl, hb1⟩; replace hbw := bthen hbw hb1; clear hb1))
          go_ret
          exact ⟨rfl, hbw⟩
        · obtain ⟨Y2, M2, D2, hB, hO2, _, _⟩ := am_ex (Y := Y') (M := M') (k := b) d1' (by omega)
          obtain ⟨y, hy⟩ : ∃ y, num Y2 M2 D2 = y := ⟨_, rfl⟩
          obtain ⟨Y3, M3, D3, hB3, hO3, _, _⟩ := am_ex (Y := Y) (M := M) (k := a + b) d1 (by omega)
          obtain ⟨z, hz⟩ : ∃ z, num Y3 M3 D3 = z := ⟨_, rfl⟩
          have HB := Lib.hid hB
          have HB3 := Lib.hid hB3
          have HO2 := Lib.hid hO2
          have HO3 := Lib.hid hO3
          have HY := Lib.hid hy
          have HZ3 := Lib.hid hz
          clear hB hB3 hO2 hO3 hy hz cb hA1 hA2
          go_enter Try.func8, Try.ntmps8
          have hbw : Below w.heap.size w w := Below.refl _ _
          go_wp2_with (first | (go_at_call 22; (with_reducible refine (am_is HO HN HO HN HZ).mono ?_); rintro e w1 ⟨rfl, hb1⟩; replace hbw := bthen hbw hb1; clear hb1) | (go_at_call 22; (with_reducible refine (am_is HO HN HO' HX HA).mono ?_); rintro e w1 ⟨rfl, hb1⟩; replace hbw := bthen hbw hb1; clear hb1) | (go_at_call 22; (with_reducible refine (am_is HO' HX HO2 HY HB).mono ?_); rintro e w1 ⟨rfl, hb1⟩; replace hbw := bthen hbw hb1; clear hb1) | (go_at_call 22; (with_reducible refine (am_is HO HN HO3 HZ3 HB3).mono ?_); rintro e w1 ⟨rfl, hb1⟩; replace hbw := bthen hbw hb1; clear hb1) | (go_at_call 16; (with_reducible refine (date_is HO HN).mono ?_); rintro e w1 ⟨rfl, hb1⟩; replace hbw := bthen hbw hb1; clear hb1) | (go_at_call 16; (with_reducible refine (date_is HO' HX).mono ?_); rintro e w1 ⟨rfl, hb1⟩; replace hbw := bthen hbw hb1; clear hb1) | (go_at_call 15; refine (awake_any _).mono ?_; rintro e w1 ⟨rfl, hb1⟩; replace hbw := bthen hbw hb1; clear hb1))
          go_ret
          exact ⟨rfl, hbw⟩
  · have C := Lib.hid c
    by_cases cn : n < 0
    · clear c
      go_enter Try.func8, Try.ntmps8
      have hbw : Below w.heap.size w w := Below.refl _ _
      go_wp2_with (first | (go_at_call 22; (with_reducible refine (am_out C).mono ?_); rintro e w1 ⟨rfl, hb1⟩; replace hbw := bthen hbw hb1; clear hb1) | (go_at_call 15; refine (awake_any _).mono ?_; rintro e w1 ⟨rfl, hb1⟩; replace hbw := bthen hbw hb1; clear hb1))
      go_ret
      exact ⟨rfl, hbw⟩
    · have cn' : 3652058 < n := by omega
      clear c
      go_enter Try.func8, Try.ntmps8
      have hbw : Below w.heap.size w w := Below.refl _ _
      go_wp2_with (first | (go_at_call 22; (with_reducible refine (am_out C).mono ?_); rintro e w1 ⟨rfl, hb1⟩; replace hbw := bthen hbw hb1; clear hb1) | (go_at_call 15; refine (awake_any _).mono ?_; rintro e w1 ⟨rfl, hb1⟩; replace hbw := bthen hbw hb1; clear hb1))
      go_ret
      exact ⟨rfl, hbw⟩

end Go.Proofs.Ytnpdkajeoipmnaa.Cal
