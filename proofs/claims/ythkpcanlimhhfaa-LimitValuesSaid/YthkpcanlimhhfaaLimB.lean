/-
  Contracts of package limit and its reference: validity (2).
-/
import Derived.Test.YthkpcanlimhhfaaLimA
import Derived.Deep.RegionHeld3
namespace Go.Proofs.Ythkpcanlimhhfaa.Lim
open Go.RowKit
set_option linter.unusedVariables false
set_option linter.unusedSimpArgs false

def valB (ld ln lb la le : Int) : Bool := decide (1 ≤ ld ∧ ld ≤ 48 ∧ 1 ≤ ln ∧ ln ≤ 65536 ∧ 1 ≤ lb ∧ lb ≤ 1048576 ∧ 0 ≤ la ∧ la ≤ 1024 ∧ 0 ≤ le ∧ le ≤ 65536)
theorem usual_any (w : World) : Calls Try.prog 18 #[] w fun e w' => e = .returned (.agg #[.int .i64 48, .int .i64 65536, .int .i64 1048576, .int .i64 1024, .int .i64 65536]) ∧ Below w.heap.size w w' := by
  go_enter Try.func18, Try.ntmps18
  go_wp2
  exact bodyPost_ret (v := .agg #[.int .i64 48, .int .i64 65536, .int .i64 1048576, .int .i64 1024, .int .i64 65536]) (by simp [results, Try.results18, go_sem]) rfl ⟨rfl, (Below.refl _ _).alloc (Nat.le_refl _) _⟩
set_option maxRecDepth 100000 in
set_option maxHeartbeats 2000000 in
theorem valid_any (ld ln lb la le : Int) (hld : -9223372036854775808 ≤ ld ∧ ld ≤ 9223372036854775807) (hln : -9223372036854775808 ≤ ln ∧ ln ≤ 9223372036854775807) (hlb : -9223372036854775808 ≤ lb ∧ lb ≤ 9223372036854775807) (hla : -9223372036854775808 ≤ la ∧ la ≤ 9223372036854775807) (hle : -9223372036854775808 ≤ le ∧ le ≤ 9223372036854775807) (w : World) : Calls Try.prog 10 #[.agg #[.int .i64 ld, .int .i64 ln, .int .i64 lb, .int .i64 la, .int .i64 le]] w fun e w' => e = .returned (.bool (valB ld ln lb la le)) ∧ Below w.heap.size w w' := by
  by_cases cld : 1 ≤ ld
  case neg =>
    have hr : decide (1 ≤ ld) = false := decide_eq_false cld
    go_enter Try.func10, Try.ntmps10
    go_wp2
    go_quiet (fail)
    go_wp2
    go_ret
    exact ⟨ret_bool (by unfold valB; rw [decide_eq_false (fun q => by omega)]), below_drewN ((Below.refl _ _).alloc (Nat.le_refl _) _) _⟩
  by_cases cln : 1 ≤ ln
  case neg =>
    have hr : decide (1 ≤ ln) = false := decide_eq_false cln
    go_enter Try.func10, Try.ntmps10
    go_wp2
    go_quiet (fail)
    go_wp2
    go_ret
    exact ⟨ret_bool (by unfold valB; rw [decide_eq_false (fun q => by omega)]), below_drewN ((Below.refl _ _).alloc (Nat.le_refl _) _) _⟩
  by_cases clb : 1 ≤ lb
  case neg =>
    have hr : decide (1 ≤ lb) = false := decide_eq_false clb
    go_enter Try.func10, Try.ntmps10
    go_wp2
    go_quiet (fail)
    go_wp2
    go_ret
    exact ⟨ret_bool (by unfold valB; rw [decide_eq_false (fun q => by omega)]), below_drewN ((Below.refl _ _).alloc (Nat.le_refl _) _) _⟩
  go_enter Try.func10, Try.ntmps10
  go_wp2
  go_region_with (first | (go_at_call 18; refine (usual_any _).mono ?_; rintro e w1 ⟨rfl, hb1⟩; obtain ⟨hc1, hf1⟩ := bcell hb1) | (go_at_call 17; refine (within_any _ _ _ _ _ _ _ _ _ _ hld hln hlb hla hle _).mono ?_; rintro e w2 ⟨rfl, hb2⟩))
  all_goals go_wp2
  all_goals go_ret
  all_goals exact ⟨ret_bool (a := winB 48 65536 1048576 1024 65536 ld ln lb la le) (by unfold valB winB; rw [Bool.eq_iff_iff]; simp only [decide_eq_true_eq]; omega), bthen (bthen (((Below.refl _ _).alloc (Nat.le_refl _) _).drew) hb1) hb2⟩
set_option maxRecDepth 100000 in
set_option maxHeartbeats 4000000 in
theorem rvalid_any (ld ln lb la le : Int) (w : World) : Calls Try.prog 13 #[.agg #[.int .i64 ld, .int .i64 ln, .int .i64 lb, .int .i64 la, .int .i64 le]] w fun e w' => e = .returned (.bool (valB ld ln lb la le)) ∧ Below w.heap.size w w' := by
  by_cases c0 : 1 ≤ ld
  case neg =>
    go_enter Try.func13, Try.ntmps13
    go_wp2
    go_ret
    exact ⟨ret_bool (by unfold valB; rw [decide_eq_false (fun q => by omega)]), (Below.refl _ _).alloc (Nat.le_refl _) _⟩
  by_cases c1 : ld ≤ 48
  case neg =>
    go_enter Try.func13, Try.ntmps13
    go_wp2
    go_ret
    exact ⟨ret_bool (by unfold valB; rw [decide_eq_false (fun q => by omega)]), (Below.refl _ _).alloc (Nat.le_refl _) _⟩
  by_cases c2 : 1 ≤ ln
  case neg =>
    go_enter Try.func13, Try.ntmps13
    go_wp2
    go_ret
    exact ⟨ret_bool (by unfold valB; rw [decide_eq_false (fun q => by omega)]), (Below.refl _ _).alloc (Nat.le_refl _) _⟩
  by_cases c3 : ln ≤ 65536
  case neg =>
    go_enter Try.func13, Try.ntmps13
    go_wp2
    go_ret
    exact ⟨ret_bool (by unfold valB; rw [decide_eq_false (fun q => by omega)]), (Below.refl _ _).alloc (Nat.le_refl _) _⟩
  by_cases c4 : 1 ≤ lb
  case neg =>
    go_enter Try.func13, Try.ntmps13
    go_wp2
    go_ret
    exact ⟨ret_bool (by unfold valB; rw [decide_eq_false (fun q => by omega)]), (Below.refl _ _).alloc (Nat.le_refl _) _⟩
  by_cases c5 : lb ≤ 1048576
  case neg =>
    go_enter Try.func13, Try.ntmps13
    go_wp2
    go_ret
    exact ⟨ret_bool (by unfold valB; rw [decide_eq_false (fun q => by omega)]), (Below.refl _ _).alloc (Nat.le_refl _) _⟩
  by_cases c6 : 0 ≤ la
  case neg =>
    go_enter Try.func13, Try.ntmps13
    go_wp2
    go_ret
    exact ⟨ret_bool (by unfold valB; rw [decide_eq_false (fun q => by omega)]), (Below.refl _ _).alloc (Nat.le_refl _) _⟩
  by_cases c7 : la ≤ 1024
  case neg =>
    go_enter Try.func13, Try.ntmps13
    go_wp2
    go_ret
    exact ⟨ret_bool (by unfold valB; rw [decide_eq_false (fun q => by omega)]), (Below.refl _ _).alloc (Nat.le_refl _) _⟩
  by_cases c8 : 0 ≤ le
  case neg =>
    go_enter Try.func13, Try.ntmps13
    go_wp2
    go_ret
    exact ⟨ret_bool (by unfold valB; rw [decide_eq_false (fun q => by omega)]), (Below.refl _ _).alloc (Nat.le_refl _) _⟩
  by_cases c9 : le ≤ 65536
  case neg =>
    go_enter Try.func13, Try.ntmps13
    go_wp2
    go_ret
    exact ⟨ret_bool (by unfold valB; rw [decide_eq_false (fun q => by omega)]), (Below.refl _ _).alloc (Nat.le_refl _) _⟩
  go_enter Try.func13, Try.ntmps13
  go_wp2
  go_ret
  exact ⟨ret_bool (by unfold valB; rw [decide_eq_true (by omega)]), (Below.refl _ _).alloc (Nat.le_refl _) _⟩
end Go.Proofs.Ythkpcanlimhhfaa.Lim
