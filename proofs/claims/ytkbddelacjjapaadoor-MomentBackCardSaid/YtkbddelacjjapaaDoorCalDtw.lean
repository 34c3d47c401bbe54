/-
  Contracts of calendar.Date, Weekday, Week, AddMonths.
-/
import Derived.Test.YtkbddelacjjapaaDoorCalDay
namespace Go.Proofs.YtkbddelacjjapaaDoor.Cal
open Go.RowKit
set_option linter.unusedVariables false
set_option linter.unusedSimpArgs false

set_option maxHeartbeats 1000000 in
/-- calendar.Date -/
theorem date_any (n : Int) (w : World) : Calls Tryd.prog 30 #[.int .i64 n] w fun e w' => e = .returned (.tuple #[.int .i64 (yOf n), .int .i64 (mOf n), .int .i64 (dOf n), .int .i64 (dateE n)]) ∧ Below w.heap.size w w' := by
  by_cases c : 0 ≤ n ∧ n ≤ 3652058
  · obtain ⟨h0, h1⟩ := c
    have HE := Lib.hid (dateE_in ⟨h0, h1⟩)
    have b0 := bef_hi (n / 366 + 1) (by omega)
    go_enter Tryd.func30, Tryd.ntmps30
    go_wp2
    go_loop [2] (fun t => ∃ y : Int, 1 ≤ y ∧ y ≤ 9999 ∧ bef y ≤ n ∧ t = .int .i64 y) (fun t => (9999 - intOf t).toNat)
    case atStart => exact ⟨_, by omega, by omega, by omega, rfl⟩
    case round =>
      obtain ⟨y, hy1, hy2, hy3, rfl⟩ := hrel
      clear b0
      by_cases hc : y < 9999 ∧ bef (y + 1) ≤ n
      · obtain ⟨hlt, hd⟩ := hc
        go_wp2_with (go_at_call 38; refine (bef_any _ _ (by omega) (by omega)).mono ?_; rintro e w' ⟨rfl, rfl⟩)
        go_round
        case rel => exact ⟨y + 1, by omega, by omega, hd, rfl⟩
        case measure => simp [intOf]; omega
      · have hz : n < bef (y + 1) := by
          by_cases e : y = 9999
          · have := bef_max; rw [e]; show _ < bef 10000; omega
          · omega
        have hb := bef_bd y hy1 (by omega)
        have c1 := cum_one y
        have c13 := cum_end y
        have hs := bef_succ y hy1 hy2
        have K : ∀ m d : Int, 1 ≤ m → m ≤ 12 → d = n - bef y - cum y m + 1 → 1 ≤ d → mon y m < d → m + 1 ≤ 12 ∧ d - mon y m = n - bef y - cum y (m + 1) + 1 := by
          intro m d hm1 hm2 hd hd1 hd2
          have := cum_succ y m hy1 hy2 hm1 hm2
          refine ⟨?_, by omega⟩
          by_cases e : m = 12
          · subst e; rw [show (12 : Int) + 1 = 13 by rfl] at this; omega
          · omega
        have HK := Lib.hid K
        have H1 := Lib.hid c1
        clear K c1 c13 hs hc
        by_cases hlt : y < 9999
        all_goals
          go_wp2_with (go_at_call 38; refine (bef_any _ _ (by omega) (by omega)).mono ?_; rintro e w' ⟨rfl, rfl⟩)
          go_loopw [3, 4] (fun k t wr => ∃ m d : Int, 1 ≤ m ∧ m ≤ 12 ∧ k = .int .i64 m ∧ d = n - bef y - cum y m + 1 ∧ 1 ≤ d ∧ t = .int .i64 d ∧ Below w.heap.size w wr) (fun k _ _ => (12 - intOf k).toNat)
          case atStart => exact ⟨1, _, by omega, by omega, rfl, by rw [H1.out]; omega, by omega, rfl, Below.refl _ _⟩
          case round =>
            obtain ⟨m, d, hm1, hm2, rfl, hd, hd1, rfl, hbw⟩ := hrel
            have HD := Lib.hid hd
            have cb := cum_bd y m
            have mb := mon_bd y m
            have hdb : d ≤ 400 := by
              have := bef_succ y hy1 hy2
              have := len_lo y
              omega
            have hzw := hbw.size
            clear hd
            by_cases hc : mon y m < d
            · obtain ⟨e1, e2⟩ := HK.out m d hm1 hm2 HD.out hd1 hc
              have E2 := Lib.hid e2
              clear e2
              go_wp2_with (first | (go_at_call 37; refine (mon_any _ _ _).mono ?_; rintro e w2 ⟨rfl, hb2⟩; replace hbw := bthen hbw hb2; clear hb2))
              go_roundw
              case rel => exact ⟨m + 1, _, by omega, e1, rfl, E2.out, by omega, rfl, hbw⟩
              case measure => simp [intOf]; omega
            · have hok : dayB y m d = true := by rw [dayB_iff]; omega
              have hnum : num y m d = n := by have := HD.out; unfold num; omega
              have E := Lib.hid (dt_eq hok hnum)
              clear hok hnum
              go_wp2_with (first | (go_at_call 37; refine (mon_any _ _ _).mono ?_; rintro e w2 ⟨rfl, hb2⟩; replace hbw := bthen hbw hb2; clear hb2))
              (try simp only [Exit.inBlock, Exit.then]); refine bodyPost_ret (results_tmp4 rfl _ _ _) rfl ?_
              exact ⟨ret_four E.out.1.symm E.out.2.1.symm E.out.2.2.symm HE.out.symm, hbw⟩
  · have HE := Lib.hid (dateE_out c)
    have E := Lib.hid (dt_out c)
    by_cases h : n < 0
    · clear c
      go_enter Tryd.func30, Tryd.ntmps30
      go_wp2
      (try simp only [Exit.inBlock, Exit.then]); refine bodyPost_ret (results_tmp4 rfl _ _ _) rfl ?_
      exact ⟨ret_four E.out.1.symm E.out.2.1.symm E.out.2.2.symm HE.out.symm, Below.refl _ _⟩
    · have h' : 3652058 < n := by omega
      clear c
      go_enter Tryd.func30, Tryd.ntmps30
      go_wp2
      (try simp only [Exit.inBlock, Exit.then]); refine bodyPost_ret (results_tmp4 rfl _ _ _) rfl ?_
      exact ⟨ret_four E.out.1.symm E.out.2.1.symm E.out.2.2.symm HE.out.symm, Below.refl _ _⟩

end Go.Proofs.YtkbddelacjjapaaDoor.Cal
