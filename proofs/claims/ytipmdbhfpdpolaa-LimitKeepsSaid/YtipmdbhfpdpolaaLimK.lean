/-
  The law's walk: LimitKeeps, all cases together.
-/
import Derived.Test.YtipmdbhfpdpolaaLimH0
import Derived.Test.YtipmdbhfpdpolaaLimH1
namespace Go.Proofs.Ytipmdbhfpdpolaa.Lim
open Go.RowKit
set_option linter.unusedVariables false
set_option linter.unusedSimpArgs false

set_option maxRecDepth 100000 in
set_option maxHeartbeats 4000000 in
theorem keeps_walk (ld ln lb la le ud un ub ua ue n : Int) (hld : -9223372036854775808 ≤ ld ∧ ld ≤ 9223372036854775807) (hln : -9223372036854775808 ≤ ln ∧ ln ≤ 9223372036854775807) (hlb : -9223372036854775808 ≤ lb ∧ lb ≤ 9223372036854775807) (hla : -9223372036854775808 ≤ la ∧ la ≤ 9223372036854775807) (hle : -9223372036854775808 ≤ le ∧ le ≤ 9223372036854775807) (hud : -9223372036854775808 ≤ ud ∧ ud ≤ 9223372036854775807) (hun : -9223372036854775808 ≤ un ∧ un ≤ 9223372036854775807) (hub : -9223372036854775808 ≤ ub ∧ ub ≤ 9223372036854775807) (hua : -9223372036854775808 ≤ ua ∧ ua ≤ 9223372036854775807) (hue : -9223372036854775808 ≤ ue ∧ ue ≤ 9223372036854775807) (hn : -9223372036854775808 ≤ n ∧ n ≤ 9223372036854775807) (w : World) : Calls Try.prog 9 #[.agg #[.int .i64 ld, .int .i64 ln, .int .i64 lb, .int .i64 la, .int .i64 le], .agg #[.int .i64 ud, .int .i64 un, .int .i64 ub, .int .i64 ua, .int .i64 ue], .int .i64 n] w fun e w' => e = .returned (.bool true) ∧ Below w.heap.size w w' := by
  by_cases k : okB ld ln lb la le ud un ub ua ue n = true
  case neg =>
    rcases okB_f k with q | ⟨q1, q2⟩ | ⟨q1, q2, q3⟩
    · have HV := Lib.hid q
      clear q k
      have hbw := ((Below.refl w.heap.size w).alloc (Nat.le_refl _) (Obj.cells (#[.int .i64 ld, .int .i64 ln, .int .i64 lb, .int .i64 la, .int .i64 le] : Array Value) 23)).alloc (by simp <;> omega) (Obj.cells (#[.int .i64 ud, .int .i64 un, .int .i64 ub, .int .i64 ua, .int .i64 ue] : Array Value) 24)
      go_enter Try.func9, Try.ntmps9
      go_wp2_with (first | (go_at_call 13; (with_reducible refine (valid_f hld hln hlb hla hle HV).mono ?_); rintro e w1 ⟨rfl, hb1⟩; obtain ⟨hc1, hf1⟩ := bcell hb1; have hy1 : w.heap.size + 1 < w1.heap.size := (by have := hb1.size; simp at this; omega); have hz1 : w.heap.size < w1.heap.size := (by omega); replace hbw := bthen hbw hb1; clear hb1) | (go_at_call 17; (with_reducible refine (awake_any _).mono ?_); rintro e w1 ⟨rfl, hb1⟩; replace hbw := bthen hbw hb1; clear hb1))
      go_ret
      exact ⟨rfl, hbw⟩
    · have HV := Lib.hid q1
      have HW := Lib.hid q2
      clear q1 q2 k
      have hbw := ((Below.refl w.heap.size w).alloc (Nat.le_refl _) (Obj.cells (#[.int .i64 ld, .int .i64 ln, .int .i64 lb, .int .i64 la, .int .i64 le] : Array Value) 23)).alloc (by simp <;> omega) (Obj.cells (#[.int .i64 ud, .int .i64 un, .int .i64 ub, .int .i64 ua, .int .i64 ue] : Array Value) 24)
      go_enter Try.func9, Try.ntmps9
      go_wp2_with (first | (go_at_call 13; (with_reducible refine (valid_t hld hln hlb hla hle HV).mono ?_); rintro e w1 ⟨rfl, hb1⟩; obtain ⟨hc1, hf1⟩ := bcell hb1; have hy1 : w.heap.size + 1 < w1.heap.size := (by have := hb1.size; simp at this; omega); have hz1 : w.heap.size < w1.heap.size := (by omega); replace hbw := bthen hbw hb1; clear hb1) | (go_at_call 15; (with_reducible refine (within_f hud hun hub hua hue HW).mono ?_); rintro e w2 ⟨rfl, hb2⟩; replace hbw := bthen hbw hb2; clear hb2) | (go_at_call 17; (with_reducible refine (awake_any _).mono ?_); rintro e w1 ⟨rfl, hb1⟩; replace hbw := bthen hbw hb1; clear hb1))
      go_ret
      exact ⟨rfl, hbw⟩
    · have HV := Lib.hid q1
      have HW := Lib.hid q2
      clear q1 q2 k
      have hbw := ((Below.refl w.heap.size w).alloc (Nat.le_refl _) (Obj.cells (#[.int .i64 ld, .int .i64 ln, .int .i64 lb, .int .i64 la, .int .i64 le] : Array Value) 23)).alloc (by simp <;> omega) (Obj.cells (#[.int .i64 ud, .int .i64 un, .int .i64 ub, .int .i64 ua, .int .i64 ue] : Array Value) 24)
      go_enter Try.func9, Try.ntmps9
      go_wp2_with (first | (go_at_call 13; (with_reducible refine (valid_t hld hln hlb hla hle HV).mono ?_); rintro e w1 ⟨rfl, hb1⟩; obtain ⟨hc1, hf1⟩ := bcell hb1; have hy1 : w.heap.size + 1 < w1.heap.size := (by have := hb1.size; simp at this; omega); have hz1 : w.heap.size < w1.heap.size := (by omega); replace hbw := bthen hbw hb1; clear hb1) | (go_at_call 15; (with_reducible refine (within_t hud hun hub hua hue HW).mono ?_); rintro e w2 ⟨rfl, hb2⟩; replace hbw := bthen hbw hb2; clear hb2) | (go_at_call 17; (with_reducible refine (awake_any _).mono ?_); rintro e w1 ⟨rfl, hb1⟩; replace hbw := bthen hbw hb1; clear hb1))
      go_ret
      exact ⟨rfl, hbw⟩
  obtain ⟨k1, k2, k3⟩ := okB_t k
  have kk := winB_bd k1 k2
  by_cases qn : ln - un < n <;> by_cases qb : lb - ub < n <;> by_cases qd : ud = ld <;> by_cases qa : ua = la
  · exact keeps_1111 ld ln lb la le ud un ub ua ue n hld hln hlb hla hle hud hun hub hua hue hn w k1 k2 k3 qd qn qb qa
  · by_cases qe : le - ue < n
    · exact keeps_1112 ld ln lb la le ud un ub ua ue n hld hln hlb hla hle hud hun hub hua hue hn w k1 k2 k3 qd qn qb (by omega) qe
    · exact keeps_1110 ld ln lb la le ud un ub ua ue n hld hln hlb hla hle hud hun hub hua hue hn w k1 k2 k3 qd qn qb (by omega) qe
  · exact keeps_0111 ld ln lb la le ud un ub ua ue n hld hln hlb hla hle hud hun hub hua hue hn w k1 k2 k3 (by omega) qn qb qa
  · by_cases qe : le - ue < n
    · exact keeps_0112 ld ln lb la le ud un ub ua ue n hld hln hlb hla hle hud hun hub hua hue hn w k1 k2 k3 (by omega) qn qb (by omega) qe
    · exact keeps_0110 ld ln lb la le ud un ub ua ue n hld hln hlb hla hle hud hun hub hua hue hn w k1 k2 k3 (by omega) qn qb (by omega) qe
  · exact keeps_1101 ld ln lb la le ud un ub ua ue n hld hln hlb hla hle hud hun hub hua hue hn w k1 k2 k3 qd qn qb qa
  · by_cases qe : le - ue < n
    · exact keeps_1102 ld ln lb la le ud un ub ua ue n hld hln hlb hla hle hud hun hub hua hue hn w k1 k2 k3 qd qn qb (by omega) qe
    · exact keeps_1100 ld ln lb la le ud un ub ua ue n hld hln hlb hla hle hud hun hub hua hue hn w k1 k2 k3 qd qn qb (by omega) qe
  · exact keeps_0101 ld ln lb la le ud un ub ua ue n hld hln hlb hla hle hud hun hub hua hue hn w k1 k2 k3 (by omega) qn qb qa
  · by_cases qe : le - ue < n
    · exact keeps_0102 ld ln lb la le ud un ub ua ue n hld hln hlb hla hle hud hun hub hua hue hn w k1 k2 k3 (by omega) qn qb (by omega) qe
    · exact keeps_0100 ld ln lb la le ud un ub ua ue n hld hln hlb hla hle hud hun hub hua hue hn w k1 k2 k3 (by omega) qn qb (by omega) qe
  · exact keeps_1011 ld ln lb la le ud un ub ua ue n hld hln hlb hla hle hud hun hub hua hue hn w k1 k2 k3 qd qn qb qa
  · by_cases qe : le - ue < n
    · exact keeps_1012 ld ln lb la le ud un ub ua ue n hld hln hlb hla hle hud hun hub hua hue hn w k1 k2 k3 qd qn qb (by omega) qe
    · exact keeps_1010 ld ln lb la le ud un ub ua ue n hld hln hlb hla hle hud hun hub hua hue hn w k1 k2 k3 qd qn qb (by omega) qe
  · exact keeps_0011 ld ln lb la le ud un ub ua ue n hld hln hlb hla hle hud hun hub hua hue hn w k1 k2 k3 (by omega) qn qb qa
  · by_cases qe : le - ue < n
    · exact keeps_0012 ld ln lb la le ud un ub ua ue n hld hln hlb hla hle hud hun hub hua hue hn w k1 k2 k3 (by omega) qn qb (by omega) qe
    · exact keeps_0010 ld ln lb la le ud un ub ua ue n hld hln hlb hla hle hud hun hub hua hue hn w k1 k2 k3 (by omega) qn qb (by omega) qe
  · exact keeps_1001 ld ln lb la le ud un ub ua ue n hld hln hlb hla hle hud hun hub hua hue hn w k1 k2 k3 qd qn qb qa
  · by_cases qe : le - ue < n
    · exact keeps_1002 ld ln lb la le ud un ub ua ue n hld hln hlb hla hle hud hun hub hua hue hn w k1 k2 k3 qd qn qb (by omega) qe
    · exact keeps_1000 ld ln lb la le ud un ub ua ue n hld hln hlb hla hle hud hun hub hua hue hn w k1 k2 k3 qd qn qb (by omega) qe
  · exact keeps_0001 ld ln lb la le ud un ub ua ue n hld hln hlb hla hle hud hun hub hua hue hn w k1 k2 k3 (by omega) qn qb qa
  · by_cases qe : le - ue < n
    · exact keeps_0002 ld ln lb la le ud un ub ua ue n hld hln hlb hla hle hud hun hub hua hue hn w k1 k2 k3 (by omega) qn qb (by omega) qe
    · exact keeps_0000 ld ln lb la le ud un ub ua ue n hld hln hlb hla hle hud hun hub hua hue hn w k1 k2 k3 (by omega) qn qb (by omega) qe

end Go.Proofs.Ytipmdbhfpdpolaa.Lim
