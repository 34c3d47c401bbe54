/-
  Package moment and its reference: days and nanoseconds.
-/
import Derived.Test.YtbgkldncoigggaaDoorMomA
namespace Go.Proofs.YtbgkldncoigggaaDoor.Mom
open Go.RowKit
set_option linter.unusedVariables false
set_option linter.unusedSimpArgs false

theorem ret2i {a b c d : Int} (h1 : a = c) (h2 : b = d) : Ending.returned (.tuple #[.int .i64 a, .int .i64 b]) = .returned (.tuple #[.int .i64 c, .int .i64 d]) := by rw [h1, h2]
theorem tdiv_neg' {n : Int} (h : n < 0) : n.tdiv 86400000000000 = -((-n) / 86400000000000) ∧ n.tmod 86400000000000 = -((-n) % 86400000000000) := by
  obtain ⟨m, rfl⟩ : ∃ m : Int, n = -m := ⟨-n, by omega⟩
  rw [Int.neg_tdiv, Int.neg_tmod, Int.neg_neg, Int.tdiv_eq_ediv_of_nonneg (by omega), Int.tmod_eq_emod_of_nonneg (by omega)]
  exact ⟨rfl, rfl⟩
set_option maxHeartbeats 2000000 in
theorem carry_any (d n : Int) (w : World) (hd : -1000000000 ≤ d ∧ d ≤ 1000000000) (hn : -9223372036854775808 ≤ n ∧ n ≤ 9223372036854775807) : Calls Tryd.prog 45 #[.int .i64 d, .int .i64 n] w fun e w' => e = .returned (.tuple #[.int .i64 (d + n / 86400000000000), .int .i64 (n % 86400000000000)]) ∧ w = w' := by
  by_cases h : 0 ≤ n
  · go_enter Tryd.func45, Tryd.ntmps45
    go_wp2
    go_ret2
    exact ⟨rfl, rfl⟩
  · obtain ⟨hq, hr⟩ := tdiv_neg' (n := n) (by omega)
    have q1 : -106753 ≤ n.tdiv 86400000000000 := by omega
    have q2 : n.tdiv 86400000000000 ≤ 0 := by omega
    have r1 : -86400000000000 < n.tmod 86400000000000 := by omega
    have r2 : n.tmod 86400000000000 ≤ 0 := by omega
    have HQ := Lib.hid hq
    have HR := Lib.hid hr
    clear hq hr
    go_enter Tryd.func45, Tryd.ntmps45
    go_wp2
    all_goals
      go_ret2
      have hq := HQ.out
      have hr := HR.out
      exact ⟨ret2i (by omega) (by omega), rfl⟩
set_option maxHeartbeats 2000000 in
theorem rsplit_any (d n : Int) (w : World) (hd : -1000000000 ≤ d ∧ d ≤ 1000000000) (hn : -1000000000000000 ≤ n ∧ n ≤ 1000000000000000) : Calls Tryd.prog 48 #[.int .i64 d, .int .i64 n] w fun e w' => e = .returned (.tuple #[.int .i64 (d + n / 86400000000000), .int .i64 (n % 86400000000000)]) ∧ w = w' := by
  obtain ⟨hd1, hd2⟩ := hd
  obtain ⟨hn1, hn2⟩ := hn
  obtain ⟨D, hD⟩ : ∃ D, d + n / 86400000000000 = D := ⟨_, rfl⟩
  obtain ⟨N, hN⟩ : ∃ N, n % 86400000000000 = N := ⟨_, rfl⟩
  have b1 : -1000000100 ≤ D ∧ D ≤ 1000000100 := by omega
  have b2 : 0 ≤ N ∧ N < 86400000000000 := by omega
  have HX : Hid (D * 86400000000000 + N = d * 86400000000000 + n) := Lib.hid (by omega)
  rw [hD, hN]
  clear hD hN
  go_enter Tryd.func48, Tryd.ntmps48
  go_wp2
  go_loop [0, 1] (fun dv nv => ∃ x y : Int, dv = .int .i64 x ∧ nv = .int .i64 y ∧ -2000000000000000 ≤ y ∧ y ≤ 1000000000000000 ∧ -1000001000 ≤ x ∧ x ≤ 1000001000 ∧ Hid (D * 86400000000000 + N = x * 86400000000000 + y)) (fun _ nv => (86400000000000 - intOf nv).toNat)
  case atStart => exact ⟨d, n, rfl, rfl, by omega, by omega, by omega, by omega, HX⟩
  case round =>
    obtain ⟨x, y, rfl, rfl, y1, y2, x1, x2, HE⟩ := hrel
    by_cases hneg : y < 0
    · have HE2 : Hid (D * 86400000000000 + N = (x - 1) * 86400000000000 + (y + 86400000000000)) := Lib.hid (by have := HE.out; omega)
      have hx3 : -1000001000 ≤ x - 1 := by have := HE.out; omega
      go_wp2
      exact ⟨⟨x - 1, y + 86400000000000, rfl, rfl, by omega, by omega, by omega, by omega, HE2⟩, by simp [intOf] <;> omega⟩
    · go_wp2
      go_loop [0, 1] (fun dv nv => ∃ x y : Int, dv = .int .i64 x ∧ nv = .int .i64 y ∧ 0 ≤ y ∧ y ≤ 1000000000000000 ∧ -1000001000 ≤ x ∧ x ≤ 1000001000 ∧ Hid (D * 86400000000000 + N = x * 86400000000000 + y)) (fun _ nv => (intOf nv).toNat)
      case atStart => exact ⟨x, y, rfl, rfl, by omega, by omega, by omega, by omega, HE⟩
      case round =>
        obtain ⟨x', y', rfl, rfl, y1', y2', x1', x2', HE'⟩ := hrel
        by_cases hge : 86400000000000 ≤ y'
        · have HE2 : Hid (D * 86400000000000 + N = (x' + 1) * 86400000000000 + (y' - 86400000000000)) := Lib.hid (by have := HE'.out; omega)
          have hx3 : x' + 1 ≤ 1000001000 := by have := HE'.out; omega
          go_wp2
          exact ⟨⟨x' + 1, y' - 86400000000000, rfl, rfl, by omega, by omega, by omega, by omega, HE2⟩, by simp [intOf] <;> omega⟩
        · go_wp2
          go_ret2
          have := HE'.out
          exact ⟨ret2i (by omega) (by omega), rfl⟩
end Go.Proofs.YtbgkldncoigggaaDoor.Mom
