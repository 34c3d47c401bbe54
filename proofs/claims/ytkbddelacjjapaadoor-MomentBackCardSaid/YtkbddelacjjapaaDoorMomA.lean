/-
  Package moment and its reference: valid times.
-/
import Derived.Test.YtkbddelacjjapaaDoorOpen
import Derived.Lib.Hide
import Derived.IntWalk
namespace Go.Proofs.YtkbddelacjjapaaDoor.Mom
open Go.RowKit
set_option linter.unusedVariables false
set_option linter.unusedSimpArgs false

/-- A valid time: kind, day, nanosecond, offset. -/
def vP (k d n o : Int) : Prop := 1 ≤ k ∧ k ≤ 4 ∧ 0 ≤ d ∧ d ≤ 3652058 ∧ (k ≠ 2 ∨ d = 0) ∧ 0 ≤ n ∧ n ≤ 86399999999999 ∧ (k ≠ 1 ∨ n = 0) ∧ -1439 ≤ o ∧ o ≤ 1439 ∧ (k = 4 ∨ o = 0)
instance (k d n o : Int) : Decidable (vP k d n o) := by unfold vP; infer_instance
def vT (k d n o : Int) : Bool := decide (vP k d n o)
theorem vT_yes {k d n o : Int} (h : vP k d n o) : true = vT k d n o := (decide_eq_true h).symm
theorem vT_no {k d n o : Int} (h : ¬ vP k d n o) : false = vT k d n o := (decide_eq_false h).symm
theorem hasDay_yes (k d n o : Int) (w : World) (h : k ≠ 2) : Calls Tryd.prog 14 #[.agg #[.int .i64 k, .int .i64 d, .int .i64 n, .int .i64 o]] w fun e w' => e = .returned (.bool true) ∧ Below w.heap.size w w' := by
  have hb : (k != 2) = true := by simpa using h
  go_enter Tryd.func14, Tryd.ntmps14
  go_wp2
  go_ret
  exact ⟨rfl, (Below.refl _ _).alloc (Nat.le_refl _) _⟩
theorem hasDay_no (d n o : Int) (w : World) : Calls Tryd.prog 14 #[.agg #[.int .i64 2, .int .i64 d, .int .i64 n, .int .i64 o]] w fun e w' => e = .returned (.bool false) ∧ Below w.heap.size w w' := by
  go_enter Tryd.func14, Tryd.ntmps14
  go_wp2
  go_ret
  exact ⟨rfl, (Below.refl _ _).alloc (Nat.le_refl _) _⟩
/-- A time in a block of its own. -/
def TC (w : World) (A : Nat) (k d n o : Int) : Prop := w.cell? ⟨A, 0, none⟩ = some (.int .i64 k) ∧ w.cell? ⟨A, 1, none⟩ = some (.int .i64 d) ∧ w.cell? ⟨A, 2, none⟩ = some (.int .i64 n) ∧ w.cell? ⟨A, 3, none⟩ = some (.int .i64 o)
theorem TC.below {w w' : World} {A B : Nat} {k d n o : Int} (h : TC w A k d n o) (hb : Below B w w') (hA : A < B) : TC w' A k d n o :=
  ⟨(hb.cell (p := ⟨A, 0, none⟩) hA).trans h.1, (hb.cell (p := ⟨A, 1, none⟩) hA).trans h.2.1, (hb.cell (p := ⟨A, 2, none⟩) hA).trans h.2.2.1, (hb.cell (p := ⟨A, 3, none⟩) hA).trans h.2.2.2⟩
theorem TC.new (w : World) (k d n o : Int) : TC (w.alloc (.cells #[.int .i64 k, .int .i64 d, .int .i64 n, .int .i64 o] 23)) w.heap.size k d n o := by
  have h := Lib.cell_of_heap (heap_alloc_new w (.cells #[.int .i64 k, .int .i64 d, .int .i64 n, .int .i64 o] 23))
  exact ⟨h 0, h 1, h 2, h 3⟩
theorem TC.of {w w1 : World} {k d n o : Int} (hb : Below (w.alloc (.cells #[.int .i64 k, .int .i64 d, .int .i64 n, .int .i64 o] 23)).heap.size (w.alloc (.cells #[.int .i64 k, .int .i64 d, .int .i64 n, .int .i64 o] 23)) w1) : TC w1 w.heap.size k d n o ∧ Below w.heap.size w w1 ∧ w.heap.size < w1.heap.size := by
  have hz := hb.size
  rw [World.size_alloc] at hz
  exact ⟨(TC.new w k d n o).below hb (by simp), ((Below.refl _ _).alloc (Nat.le_refl _) _).trans (hb.mono (by simp)), by omega⟩
set_option maxRecDepth 100000 in
set_option maxHeartbeats 4000000 in
theorem valid_any (k d n o : Int) (w : World) : Calls Tryd.prog 6 #[.agg #[.int .i64 k, .int .i64 d, .int .i64 n, .int .i64 o]] w fun e w' => e = .returned (.bool (vT k d n o)) ∧ Below w.heap.size w w' := by
  have hB0 : Below w.heap.size w (w.alloc (.cells #[.int .i64 k, .int .i64 d, .int .i64 n, .int .i64 o] 23)) := (Below.refl _ _).alloc (Nat.le_refl _) _
  by_cases hk : k = 2
  · subst hk
    go_enter Tryd.func6, Tryd.ntmps6
    go_wp2_with (go_at_call 14; (with_reducible refine (hasDay_no _ _ _ _).mono ?_); rintro e w1 ⟨rfl, hb1⟩; obtain ⟨⟨c0, c1, c2, c3⟩, hB0, hlt⟩ := TC.of hb1; clear hb1)
    all_goals
      go_ret
      refine ⟨ret_bool ?_, hB0⟩
      first | exact vT_yes (by unfold vP; omega) | exact vT_no (by unfold vP; omega) | (unfold vT; rw [Bool.eq_iff_iff]; simp only [beq_iff_eq, Bool.or_eq_true, decide_eq_true_eq]; unfold vP; omega)
  · have hb2 : (k == 2) = false := by simpa using hk
    go_enter Tryd.func6, Tryd.ntmps6
    go_wp2_with (go_at_call 14; (with_reducible refine (hasDay_yes _ _ _ _ _ hk).mono ?_); rintro e w1 ⟨rfl, hb1⟩; obtain ⟨⟨c0, c1, c2, c3⟩, hB0, hlt⟩ := TC.of hb1; clear hb1)
    all_goals
      go_ret
      refine ⟨ret_bool ?_, hB0⟩
      first | exact vT_yes (by unfold vP; omega) | exact vT_no (by unfold vP; omega) | (unfold vT; rw [Bool.eq_iff_iff]; simp only [beq_iff_eq, Bool.or_eq_true, decide_eq_true_eq]; unfold vP; omega)
end Go.Proofs.YtkbddelacjjapaaDoor.Mom
