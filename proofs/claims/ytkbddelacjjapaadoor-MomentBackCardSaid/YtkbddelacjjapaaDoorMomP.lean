/-
  Package moment: the statements' own liveness; the walks of MomentZones, MomentShifts, MomentBetween.
-/
import Derived.Test.YtkbddelacjjapaaDoorMomO
import Derived.Test.YtkbddelacjjapaaDoorMomF
import Derived.Test.YtkbddelacjjapaaDoorMomT
namespace Go.Proofs.YtkbddelacjjapaaDoor.Mom
open Go.RowKit
set_option linter.unusedVariables false
set_option linter.unusedSimpArgs false
open Go.Proofs.YtkbddelacjjapaaDoor.Cal

theorem text_ex (w : World) (ht : Tb w) : Calls Tryd.prog 9 #[.agg #[.int .i64 4, .int .i64 738944, .int .i64 37800500000000, .int .i64 120]] w fun e w' => e = .returned (.string ⟨#[50, 48, 50, 52, 45, 48, 50, 45, 50, 57, 84, 49, 48, 58, 51, 48, 58, 48, 48, 46, 53, 43, 48, 50, 58, 48, 48]⟩) ∧ Below w.heap.size w w' := by
  have h := text_4 2024 2 29 37800500000000 738944 120 w (by decide) (by decide) (by decide) ht
  have e : txS 4 2024 2 29 37800500000000 120 = ⟨#[50, 48, 50, 52, 45, 48, 50, 45, 50, 57, 84, 49, 48, 58, 51, 48, 58, 48, 48, 46, 53, 43, 48, 50, 58, 48, 48]⟩ := by kernel_rfl
  rw [e] at h
  exact h
set_option maxRecDepth 100000 in
set_option maxHeartbeats 4000000 in
theorem awake_any (w : World) (ht : Tb w) : Calls Tryd.prog 7 #[] w fun e w' => e = .returned (.bool true) ∧ Below w.heap.size w w' := by
  have HP := Lib.hid parse_ex
  have HV : Hid (∀ w, Calls Tryd.prog 6 #[.agg #[.int .i64 4, .int .i64 738944, .int .i64 37800500000000, .int .i64 120]] w fun e w' => e = .returned (.bool true) ∧ Below w.heap.size w w') := Lib.hid (fun w => by
    have := valid_any 4 738944 37800500000000 120 w
    rwa [show vT 4 738944 37800500000000 120 = true by decide] at this)
  have HT := Lib.hid (fun (w' : World) (hb : Below w.heap.size w w') => text_ex w' (ht.next hb))
  clear ht
  go_enter Tryd.func7, Tryd.ntmps7
  go_wp2_with (first | (go_at_call 12; go_loud ((with_reducible refine (HP.out _).mono ?_); rintro e w1 ⟨rfl, hX⟩; have T := (TB.new w 4 738944 37800500000000 120).below hX (by simp); have B1 : Below w.heap.size w w1 := ((Below.refl _ _).alloc (Nat.le_refl _) _).trans (hX.mono (by simp)); have hlt := T.lt; obtain ⟨a0, a1, a2, a3⟩ := T.cells; clear hX)) | (go_at_call 6; go_loud ((with_reducible refine (HV.out _).mono ?_); rintro e w2 ⟨rfl, hX⟩; have U := (TB.new w1 4 738944 37800500000000 120).below hX (by simp); have T2 := (T.alloc (.cells #[.int .i64 4, .int .i64 738944, .int .i64 37800500000000, .int .i64 120] 23)).below hX (by simp; omega); have B2 : Below w.heap.size w w2 := (B1.alloc (by omega) _).trans (hX.mono (by simp; omega)); clear a0 a1 a2 a3; obtain ⟨a0, a1, a2, a3⟩ := T2.cells; obtain ⟨b0, b1, b2, b3⟩ := U.cells; clear hX)) | (go_at_call 9; go_loud ((with_reducible refine (HT.out _ B2).mono ?_); rintro e w3 ⟨rfl, hX⟩; have U3 := U.below hX U.lt; have T3 := T2.below hX T2.lt; have B3 := B2.trans (hX.mono B2.size); clear a0 a1 a2 a3 b0 b1 b2 b3; obtain ⟨a0, a1, a2, a3⟩ := T3.cells; obtain ⟨b0, b1, b2, b3⟩ := U3.cells; clear hX)))
  go_ret
  exact ⟨rfl, B3⟩
end Go.Proofs.YtkbddelacjjapaaDoor.Mom
