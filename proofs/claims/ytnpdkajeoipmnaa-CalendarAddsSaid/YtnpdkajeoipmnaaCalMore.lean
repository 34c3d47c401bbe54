/-
  Contracts of calendar.Weekday, Week, AddMonths.
-/
import Derived.Test.YtnpdkajeoipmnaaCalDtw
namespace Go.Proofs.Ytnpdkajeoipmnaa.Cal
open Go.RowKit

theorem in_cases (n : Int) : n < 0 ∨ 3652058 < n ∨ (0 ≤ n ∧ n ≤ 3652058) := by omega
/-- calendar.Weekday -/
theorem wd_any (n : Int) (w : World) : Calls Try.prog 18 #[.int .i64 n] w fun e w' => e = .returned (.tuple #[.int .i64 (wdN n), .int .i64 (dateE n)]) ∧ w = w' := by
  rcases in_cases n with h | h | h
  · go_enter Try.func18, Try.ntmps18
    go_wp2
    go_ret2
    exact ⟨ret_two (by unfold wdN; rw [if_neg (by omega)]) (dateE_out (by omega)).symm, rfl⟩
  · go_enter Try.func18, Try.ntmps18
    go_wp2
    go_ret2
    exact ⟨ret_two (by unfold wdN; rw [if_neg (by omega)]) (dateE_out (by omega)).symm, rfl⟩
  · obtain ⟨h0, h1⟩ := h
    go_enter Try.func18, Try.ntmps18
    go_wp2
    go_ret2
    exact ⟨ret_two (by unfold wdN; rw [if_pos (by omega)]) (dateE_in (by omega)).symm, rfl⟩
set_option maxHeartbeats 1000000 in
/-- calendar.Week -/
theorem wk_any (n : Int) (w : World) : Calls Try.prog 20 #[.int .i64 n] w fun e w' => e = .returned (.tuple #[.int .i64 (wkY n), .int .i64 (wkW n), .int .i64 (dateE n)]) ∧ Below w.heap.size w w' := by
  rcases in_cases n with h | h | h
  · go_enter Try.func20, Try.ntmps20
    go_wp2
    go_ret3
    exact ⟨ret_three (by unfold wkY; rw [if_neg (by omega)]) (by unfold wkW; rw [if_neg (by omega)]) (dateE_out (by omega)).symm, Below.refl _ _⟩
  · go_enter Try.func20, Try.ntmps20
    go_wp2
    go_ret3
    exact ⟨ret_three (by unfold wkY; rw [if_neg (by omega)]) (by unfold wkW; rw [if_neg (by omega)]) (dateE_out (by omega)).symm, Below.refl _ _⟩
  · obtain ⟨h0, h1⟩ := h
    have ht := th_in h0 h1
    have hy := dayB_in (dt_ok ht.1 ht.2).1
    have hb := num_in (dt_ok ht.1 ht.2).1
    rw [(dt_ok ht.1 ht.2).2] at hb
    have hb0 := bef_bd (yOf (th n)) hy.1 (by omega)
    unfold th at ht hy hb hb0
    go_enter Try.func20, Try.ntmps20
    go_wp2_with (first | (go_at_call 16; refine (date_any _ _).mono ?_; rintro e w1 ⟨rfl, hb1⟩) | (go_at_call 24; refine (bef_any _ _ (by omega) (by omega)).mono ?_; rintro e w' ⟨rfl, rfl⟩))
    go_ret3
    exact ⟨ret_three (by unfold wkY; rw [if_pos ⟨h0, h1⟩]; rfl) (by unfold wkW; rw [if_pos ⟨h0, h1⟩]; rfl) (dateE_in (by omega)).symm, hb1⟩
set_option maxHeartbeats 1000000 in
/-- calendar.AddMonths -/
theorem am_any (n k : Int) (w : World) : Calls Try.prog 22 #[.int .i64 n, .int .i64 k] w fun e w' => e = .returned (.tuple #[.int .i64 (amN n k), .int .i64 (amE n k)]) ∧ Below w.heap.size w w' := by
  by_cases c : 0 ≤ n ∧ n ≤ 3652058
  · have HE := Lib.hid (dateE_in c)
    have hE0 : (dateE n == 0) = true := by simp [HE.out]
    have hE1 : (dateE n != 0) = false := by simp [HE.out]
    obtain ⟨y1, y2, m1, m2, d1, d2⟩ := dayB_in (dt_ok c.1 c.2).1
    have d3 := mon_bd (yOf n) (mOf n)
    have hmo := Lib.hid (show mo n k = (yOf n - 1) * 12 + mOf n - 1 + k from rfl)
    clear HE
    by_cases k1 : k < -119988
    · have HN : ¬ AmIn n k (mo n k) := fun h => by have := h.2.1; omega
      have HA := Lib.hid (am_no HN)
      clear HN
      go_enter Try.func22, Try.ntmps22
      go_wp2_with (first | (go_at_call 16; refine (date_any _ _).mono ?_; rintro e w1 ⟨rfl, hb1⟩) | (go_at_call 13; refine (mon_any _ _ _).mono ?_; rintro e w2 ⟨rfl, hb2⟩; replace hb1 := bthen hb1 hb2; clear hb2) | (go_at_call 9; refine (day_any _ _ _ _).mono ?_; rintro e w3 ⟨rfl, hb3⟩; replace hb1 := bthen hb1 hb3; clear hb3))
      go_ret2
      exact ⟨ret_two HA.out.1.symm HA.out.2.symm, hb1⟩
    by_cases k2 : 119988 < k
    · have HN : ¬ AmIn n k (mo n k) := fun h => by have := h.2.1; omega
      have HA := Lib.hid (am_no HN)
      clear HN
      go_enter Try.func22, Try.ntmps22
      go_wp2_with (first | (go_at_call 16; refine (date_any _ _).mono ?_; rintro e w1 ⟨rfl, hb1⟩) | (go_at_call 13; refine (mon_any _ _ _).mono ?_; rintro e w2 ⟨rfl, hb2⟩; replace hb1 := bthen hb1 hb2; clear hb2) | (go_at_call 9; refine (day_any _ _ _ _).mono ?_; rintro e w3 ⟨rfl, hb3⟩; replace hb1 := bthen hb1 hb3; clear hb3))
      go_ret2
      exact ⟨ret_two HA.out.1.symm HA.out.2.symm, hb1⟩
    by_cases k3 : (yOf n - 1) * 12 + mOf n - 1 + k < 0
    · have HN : ¬ AmIn n k (mo n k) := fun h => by have := h.2.2; have := hmo.out; omega
      have HA := Lib.hid (am_no HN)
      clear HN
      go_enter Try.func22, Try.ntmps22
      go_wp2_with (first | (go_at_call 16; refine (date_any _ _).mono ?_; rintro e w1 ⟨rfl, hb1⟩) | (go_at_call 13; refine (mon_any _ _ _).mono ?_; rintro e w2 ⟨rfl, hb2⟩; replace hb1 := bthen hb1 hb2; clear hb2) | (go_at_call 9; refine (day_any _ _ _ _).mono ?_; rintro e w3 ⟨rfl, hb3⟩; replace hb1 := bthen hb1 hb3; clear hb3))
      go_ret2
      exact ⟨ret_two HA.out.1.symm HA.out.2.symm, hb1⟩
    have HA := Lib.hid (am_yes (n := n) (k := k) ⟨c, ⟨by omega, by omega⟩, by have := hmo.out; omega⟩)
    rw [hmo.out] at HA
    clear c
    rcases Int.lt_or_le (mon (((yOf n - 1) * 12 + mOf n - 1 + k) / 12 + 1) (((yOf n - 1) * 12 + mOf n - 1 + k) % 12 + 1)) (dOf n) with hm | hm
    · have HM := Lib.hid (Int.min_eq_right (Int.le_of_lt hm))
      go_enter Try.func22, Try.ntmps22
      go_wp2_with (first | (go_at_call 16; refine (date_any _ _).mono ?_; rintro e w1 ⟨rfl, hb1⟩) | (go_at_call 13; refine (mon_any _ _ _).mono ?_; rintro e w2 ⟨rfl, hb2⟩; replace hb1 := bthen hb1 hb2; clear hb2) | (go_at_call 9; refine (day_any _ _ _ _).mono ?_; rintro e w3 ⟨rfl, hb3⟩; replace hb1 := bthen hb1 hb3; clear hb3))
      go_ret2
      exact ⟨ret_two (by rw [HA.out.1, HM.out]) (by rw [HA.out.2, HM.out]), hb1⟩
    · have HM := Lib.hid (Int.min_eq_left hm)
      go_enter Try.func22, Try.ntmps22
      go_wp2_with (first | (go_at_call 16; refine (date_any _ _).mono ?_; rintro e w1 ⟨rfl, hb1⟩) | (go_at_call 13; refine (mon_any _ _ _).mono ?_; rintro e w2 ⟨rfl, hb2⟩; replace hb1 := bthen hb1 hb2; clear hb2) | (go_at_call 9; refine (day_any _ _ _ _).mono ?_; rintro e w3 ⟨rfl, hb3⟩; replace hb1 := bthen hb1 hb3; clear hb3))
      go_ret2
      exact ⟨ret_two (by rw [HA.out.1, HM.out]) (by rw [HA.out.2, HM.out]), hb1⟩
  · have HN : ¬ AmIn n k (mo n k) := fun h => c h.1
    have HA := Lib.hid (am_no HN)
    have HE := Lib.hid (dateE_out c)
    have hE0 : (dateE n == 0) = false := by simp [HE.out]
    have hE1 : (dateE n != 0) = true := by simp [HE.out]
    clear c HN
    go_enter Try.func22, Try.ntmps22
    go_wp2_with (first | (go_at_call 16; refine (date_any _ _).mono ?_; rintro e w1 ⟨rfl, hb1⟩))
    go_ret2
    exact ⟨ret_two HA.out.1.symm (by rw [HA.out.2, HE.out]), hb1⟩

end Go.Proofs.Ytnpdkajeoipmnaa.Cal
