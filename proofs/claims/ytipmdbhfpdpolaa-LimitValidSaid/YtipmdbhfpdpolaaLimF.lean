/-
  The law's walk: LimitValid.
-/
import Derived.Test.YtipmdbhfpdpolaaLimE
namespace Go.Proofs.Ytipmdbhfpdpolaa.Lim
open Go.RowKit
set_option linter.unusedVariables false
set_option linter.unusedSimpArgs false

set_option maxRecDepth 100000 in
set_option maxHeartbeats 4000000 in
theorem valid_walk (ld ln lb la le ud un ub ua ue : Int) (hld : -9223372036854775808 ≤ ld ∧ ld ≤ 9223372036854775807) (hln : -9223372036854775808 ≤ ln ∧ ln ≤ 9223372036854775807) (hlb : -9223372036854775808 ≤ lb ∧ lb ≤ 9223372036854775807) (hla : -9223372036854775808 ≤ la ∧ la ≤ 9223372036854775807) (hle : -9223372036854775808 ≤ le ∧ le ≤ 9223372036854775807) (hud : -9223372036854775808 ≤ ud ∧ ud ≤ 9223372036854775807) (hun : -9223372036854775808 ≤ un ∧ un ≤ 9223372036854775807) (hub : -9223372036854775808 ≤ ub ∧ ub ≤ 9223372036854775807) (hua : -9223372036854775808 ≤ ua ∧ ua ≤ 9223372036854775807) (hue : -9223372036854775808 ≤ ue ∧ ue ≤ 9223372036854775807) (w : World) : Calls Try.prog 3 #[.agg #[.int .i64 ld, .int .i64 ln, .int .i64 lb, .int .i64 la, .int .i64 le], .agg #[.int .i64 ud, .int .i64 un, .int .i64 ub, .int .i64 ua, .int .i64 ue]] w fun e w' => e = .returned (.bool true) ∧ Below w.heap.size w w' := by
  go_enter Try.func3, Try.ntmps3
  go_wp2
  go_region_held3 (fun w' => Below w.heap.size w w' ∧ w.heap.size + 2 ≤ w'.heap.size ∧ w'.cell? ⟨w.heap.size, 0, none⟩ = some (.int .i64 ld) ∧ w'.cell? ⟨w.heap.size, 1, none⟩ = some (.int .i64 ln) ∧ w'.cell? ⟨w.heap.size, 2, none⟩ = some (.int .i64 lb) ∧ w'.cell? ⟨w.heap.size, 3, none⟩ = some (.int .i64 la) ∧ w'.cell? ⟨w.heap.size, 4, none⟩ = some (.int .i64 le) ∧ w'.cell? ⟨w.heap.size + 1, 0, none⟩ = some (.int .i64 ud) ∧ w'.cell? ⟨w.heap.size + 1, 1, none⟩ = some (.int .i64 un) ∧ w'.cell? ⟨w.heap.size + 1, 2, none⟩ = some (.int .i64 ub) ∧ w'.cell? ⟨w.heap.size + 1, 3, none⟩ = some (.int .i64 ua) ∧ w'.cell? ⟨w.heap.size + 1, 4, none⟩ = some (.int .i64 ue))
    (first | (go_split_ands; have kk := keepS (k := 2) (by assumption) (by assumption) hb1; exact ⟨kk.1, kk.2.1, kk.2.2 _ _ _ (by omega) (by assumption), kk.2.2 _ _ _ (by omega) (by assumption), kk.2.2 _ _ _ (by omega) (by assumption), kk.2.2 _ _ _ (by omega) (by assumption), kk.2.2 _ _ _ (by omega) (by assumption), kk.2.2 _ _ _ (by omega) (by assumption), kk.2.2 _ _ _ (by omega) (by assumption), kk.2.2 _ _ _ (by omega) (by assumption), kk.2.2 _ _ _ (by omega) (by assumption), kk.2.2 _ _ _ (by omega) (by assumption)⟩) | (refine ⟨(((Below.refl _ _).alloc (Nat.le_refl _) _).alloc (by simp) _).drew, by simp, ?_, ?_, ?_, ?_, ?_, ?_, ?_, ?_, ?_, ?_⟩ <;> go_simp))
    (first | (go_at_call 11; (with_reducible refine (usual_any _).mono ?_); rintro e w1 ⟨rfl, hb1⟩) | (go_at_call 12; (with_reducible refine (rusual_any _).mono ?_); rintro e w1 ⟨rfl, hb1⟩) | (go_at_call 13; (with_reducible refine (valid_any ld ln lb la le hld hln hlb hla hle _).mono ?_); rintro e w1 ⟨rfl, hb1⟩) | (go_at_call 14; (with_reducible refine (rvalid_any ld ln lb la le _).mono ?_); rintro e w1 ⟨rfl, hb1⟩) | (go_at_call 15; (with_reducible refine (within_any ld ln lb la le ud un ub ua ue hud hun hub hua hue _).mono ?_); rintro e w1 ⟨rfl, hb1⟩) | (go_at_call 16; (with_reducible refine (rwithin_any ld ln lb la le ud un ub ua ue _).mono ?_); rintro e w1 ⟨rfl, hb1⟩) | (go_at_call 17; (with_reducible refine (awake_any _).mono ?_); rintro e w1 ⟨rfl, hb1⟩))
  all_goals go_wp2
  all_goals go_ret
  all_goals go_split_ands
  all_goals exact ⟨rfl, by assumption⟩

end Go.Proofs.Ytipmdbhfpdpolaa.Lim
