/-
  Contracts of datakitref04.Day, in, Date, Weekday, Week, AddMonths.
-/
import Derived.Test.YtbgkldncoigggaaDoorCalRef
import Derived.Test.YtbgkldncoigggaaDoorCalMore
namespace Go.Proofs.YtbgkldncoigggaaDoor.Cal
open Go.RowKit
set_option linter.unusedVariables false
set_option linter.unusedSimpArgs false

set_option maxHeartbeats 1000000 in
/-- datakitref04.Day -/
theorem rday_any (y m d : Int) (w : World) : Calls Tryd.prog 42 #[.int .i64 y, .int .i64 m, .int .i64 d] w fun e w' => e = .returned (.tuple #[.int .i64 (dayN y m d), .int .i64 (dayE y m d)]) ∧ w = w' := by
  rcases day_split y m d with h | h | h
  · obtain ⟨-, h2, h3⟩ := dayN_no (y := y) (m := m) (Or.inl h)
    have H2 := Lib.hid h2
    have H3 := Lib.hid h3
    clear h2 h3
    go_enter Tryd.func42, Tryd.ntmps42
    go_wp2
    go_ret2
    exact ⟨ret_two H2.out.symm H3.out.symm, rfl⟩
  · obtain ⟨-, h2, h3⟩ := dayN_no (y := y) (m := m) (Or.inr h.2)
    have H2 := Lib.hid h2
    have H3 := Lib.hid h3
    obtain ⟨ha, hb⟩ := h
    clear h2 h3
    go_enter Tryd.func42, Tryd.ntmps42
    go_wp2_with (go_at_call 57; refine (rmon_any _ _ _).mono ?_; rintro e w1 ⟨rfl, rfl⟩)
    go_ret2
    exact ⟨ret_two H2.out.symm H3.out.symm, rfl⟩
  · obtain ⟨h1, h2, h3⟩ := dayN_yes h
    obtain ⟨a, b, c, e, f, g⟩ := dayB_in h1
    have H2 := Lib.hid h2
    have H3 := Lib.hid h3
    have cb := bef_bd y a (by omega)
    have mb := mon_bd y m
    have c1 := Lib.hid (cum_one y)
    clear h1 h2 h3 h
    go_enter Tryd.func42, Tryd.ntmps42
    go_wp2_with (first | (go_at_call 57; refine (rmon_any _ _ _).mono ?_; rintro e w1 ⟨rfl, rfl⟩) | (go_at_call 64; refine (rbef_any _ _ a (by omega)).mono ?_; rintro e w' ⟨rfl, rfl⟩))
    go_loop [8, 9] (fun n i => ∃ k : Int, 1 ≤ k ∧ k ≤ m ∧ i = .int .i64 k ∧ n = .int .i64 (bef y + cum y k)) (fun _ i => (m - intOf i).toNat)
    case atStart => exact ⟨1, by omega, by omega, rfl, by have := c1.out; simp [this]⟩
    case round =>
      obtain ⟨k, hk0, hk, rfl, rfl⟩ := hrel
      have q0 := cum_bd y k
      by_cases hlt : k < m
      · have cs := Lib.hid (cum_succ y k a b (by omega) (by omega))
        have mk := mon_bd y k
        go_wp2_with (go_at_call 57; refine (rmon_any _ _ _).mono ?_; rintro e w2 ⟨rfl, rfl⟩)
        go_round
        case rel => exact ⟨k + 1, by omega, by omega, by go_num, by rw [cs.out]; go_num⟩
        case measure => simp [intOf]; omega
      · go_wp2
        go_ret2
        exact ⟨ret_two (by rw [H2.out]; unfold num; rw [show k = m by omega]) H3.out.symm, rfl⟩
/-- datakitref04.in -/
theorem rin_yes (n : Int) (w : World) (h : 0 ≤ n ∧ n ≤ 3652058) : Calls Tryd.prog 55 #[.int .i64 n] w fun e w' => e = .returned (.bool true) ∧ w = w' := by
  obtain ⟨h0, h1⟩ := h
  go_enter Tryd.func55, Tryd.ntmps55
  go_wp2
  go_ret
  exact ⟨ret_bool (by simp; try omega), rfl⟩
theorem rin_no (n : Int) (w : World) (h : ¬ (0 ≤ n ∧ n ≤ 3652058)) : Calls Tryd.prog 55 #[.int .i64 n] w fun e w' => e = .returned (.bool false) ∧ w = w' := by
  by_cases c : n < 0
  · clear h
    go_enter Tryd.func55, Tryd.ntmps55
    go_wp2
    go_ret
    exact ⟨ret_bool (by simp; try omega), rfl⟩
  · have c' : 3652058 < n := by omega
    clear h
    go_enter Tryd.func55, Tryd.ntmps55
    go_wp2
    go_ret
    exact ⟨ret_bool (by simp; try omega), rfl⟩
set_option maxHeartbeats 1000000 in
/-- datakitref04.Date -/
theorem rdate_any (n : Int) (w : World) : Calls Tryd.prog 34 #[.int .i64 n] w fun e w' => e = .returned (.tuple #[.int .i64 (yOf n), .int .i64 (mOf n), .int .i64 (dOf n), .int .i64 (dateE n)]) ∧ w = w' := by
  by_cases c : 0 ≤ n ∧ n ≤ 3652058
  · have HE := Lib.hid (dateE_in c)
    obtain ⟨h0, h1⟩ := c
    have b1 := bef_one
    go_enter Tryd.func34, Tryd.ntmps34
    go_wp2_with (go_at_call 55; refine (rin_yes _ _ ⟨h0, h1⟩).mono ?_; rintro e w' ⟨rfl, rfl⟩)
    go_loop [0, 6] (fun r t => ∃ y : Int, 1 ≤ y ∧ y ≤ 9999 ∧ 0 ≤ n - bef y ∧ t = .int .i64 y ∧ r = .int .i64 (n - bef y)) (fun _ t => (9999 - intOf t).toNat)
    case atStart => exact ⟨1, by omega, by omega, by omega, rfl, by rw [b1]; simp⟩
    case round =>
      obtain ⟨y, hy1, hy2, hy3, rfl, rfl⟩ := hrel
      clear b1
      have hb := bef_bd y hy1 (by omega)
      have hl := len_lo y
      have hs := bef_succ y hy1 hy2
      by_cases hc : len y ≤ n - bef y
      · have hlt : y < 9999 := by
          by_cases e : y = 9999
          · have := bef_max; subst e; rw [show (9999 : Int) + 1 = 10000 by rfl] at hs; omega
          · omega
        have HS := Lib.hid hs
        clear hs
        go_wp2_with (go_at_call 56; refine (rlen_any _ _ (by omega) (by omega)).mono ?_; rintro e w' ⟨rfl, rfl⟩)
        go_round
        case rel => exact ⟨y + 1, by omega, by omega, by rw [HS.out]; omega, rfl, by rw [HS.out]; go_num⟩
        case measure => simp [intOf]; omega
      · have c1 := cum_one y
        have c13 := cum_end y
        have K : ∀ m r : Int, 1 ≤ m → m ≤ 12 → r = n - bef y - cum y m → 0 ≤ r → mon y m ≤ r → m + 1 ≤ 12 ∧ r - mon y m = n - bef y - cum y (m + 1) := by
          intro m d hm1 hm2 hd hd1 hd2
          have := cum_succ y m hy1 hy2 hm1 hm2
          refine ⟨?_, by omega⟩
          by_cases e : m = 12
          · subst e; rw [show (12 : Int) + 1 = 13 by rfl] at this; omega
          · omega
        have HK := Lib.hid K
        have H1 := Lib.hid c1
        clear K c1 c13 hs
        go_wp2_with (go_at_call 56; refine (rlen_any _ _ (by omega) (by omega)).mono ?_; rintro e w' ⟨rfl, rfl⟩)
        go_loop [0, 7] (fun t k => ∃ m d : Int, 1 ≤ m ∧ m ≤ 12 ∧ k = .int .i64 m ∧ d = n - bef y - cum y m ∧ 0 ≤ d ∧ t = .int .i64 d) (fun _ k => (12 - intOf k).toNat)
        case atStart => exact ⟨1, _, by omega, by omega, rfl, by rw [H1.out]; omega, by omega, rfl⟩
        case round =>
          obtain ⟨m, d, hm1, hm2, rfl, hd, hd1, rfl⟩ := hrel
          have HD := Lib.hid hd
          have cb := cum_bd y m
          have mb := mon_bd y m
          have hdb : d ≤ 400 := by
            have := bef_succ y hy1 hy2
            omega
          clear hd
          by_cases hc : mon y m ≤ d
          · obtain ⟨e1, e2⟩ := HK.out m d hm1 hm2 HD.out hd1 hc
            have E2 := Lib.hid e2
            clear e2
            go_wp2_with (first | (go_at_call 57; refine (rmon_any _ _ _).mono ?_; rintro e w2 ⟨rfl, rfl⟩))
            go_round
            case rel => exact ⟨m + 1, _, by omega, e1, rfl, E2.out, by omega, rfl⟩
            case measure => simp [intOf]; omega
          · have hok : dayB y m (d + 1) = true := by rw [dayB_iff]; omega
            have hnum : num y m (d + 1) = n := by have := HD.out; unfold num; omega
            have E := Lib.hid (dt_eq hok hnum)
            clear hok hnum
            go_wp2_with (first | (go_at_call 57; refine (rmon_any _ _ _).mono ?_; rintro e w2 ⟨rfl, rfl⟩))
            (try simp only [Exit.inBlock, Exit.then]); refine bodyPost_ret (results_tmp4 rfl _ _ _) rfl ?_
            exact ⟨ret_four E.out.1.symm E.out.2.1.symm E.out.2.2.symm HE.out.symm, rfl⟩
  · have HE := Lib.hid (dateE_out c)
    have E := Lib.hid (dt_out c)
    have C := Lib.hid c
    clear c
    go_enter Tryd.func34, Tryd.ntmps34
    go_wp2_with (go_at_call 55; refine (rin_no _ _ C.out).mono ?_; rintro e w' ⟨rfl, rfl⟩)
    (try simp only [Exit.inBlock, Exit.then]); refine bodyPost_ret (results_tmp4 rfl _ _ _) rfl ?_
    exact ⟨ret_four E.out.1.symm E.out.2.1.symm E.out.2.2.symm HE.out.symm, rfl⟩

end Go.Proofs.YtbgkldncoigggaaDoor.Cal
