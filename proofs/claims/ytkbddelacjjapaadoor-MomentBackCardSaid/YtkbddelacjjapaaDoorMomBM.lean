/-
  Package moment: the law MomentBack.
-/
import Derived.Test.YtkbddelacjjapaaDoorMomBL
import Derived.Test.YtkbddelacjjapaaDoorMomBK
namespace Go.Proofs.YtkbddelacjjapaaDoor.Mom
open Go.RowKit
set_option linter.unusedVariables false
set_option linter.unusedSimpArgs false
open Go.Proofs.YtkbddelacjjapaaDoor.Cal

set_option maxRecDepth 100000 in
set_option maxHeartbeats 4000000 in
theorem back_vok (k d n o a b c g : Int) (s s1 s2 : ByteArray) (w : World) (HAW : Hid (∀ w' : World, Below w.heap.size w w' → Calls Tryd.prog 7 #[] w' fun e w'' => e = .returned (.bool true) ∧ Below w'.heap.size w' w'')) (HV : Hid (∀ w, Calls Tryd.prog 6 #[.agg #[.int .i64 k, .int .i64 d, .int .i64 n, .int .i64 o]] w fun e w' => e = .returned (.bool true) ∧ Below w.heap.size w w')) (HT : Hid (∀ w' : World, Below w.heap.size w w' → Calls Tryd.prog 9 #[.agg #[.int .i64 k, .int .i64 d, .int .i64 n, .int .i64 o]] w' fun e w'' => e = .returned (.string s1) ∧ Below w'.heap.size w' w'')) (HP1 : Hid (∀ w, Calls Tryd.prog 12 #[.string s1] w fun e w' => e = .returned (.tuple #[.agg #[.int .i64 k, .int .i64 d, .int .i64 n, .int .i64 o], .int .i64 0]) ∧ Below w.heap.size w w')) (HP : Hid (∀ w, Calls Tryd.prog 12 #[.string s] w fun e w' => e = .returned (.tuple #[.agg #[.int .i64 a, .int .i64 b, .int .i64 c, .int .i64 g], .int .i64 0]) ∧ Below w.heap.size w w')) (HT2 : Hid (∀ w' : World, Below w.heap.size w w' → Calls Tryd.prog 9 #[.agg #[.int .i64 a, .int .i64 b, .int .i64 c, .int .i64 g]] w' fun e w'' => e = .returned (.string s2) ∧ Below w'.heap.size w' w'')) (HP2 : Hid (∀ w, Calls Tryd.prog 12 #[.string s2] w fun e w' => e = .returned (.tuple #[.agg #[.int .i64 a, .int .i64 b, .int .i64 c, .int .i64 g], .int .i64 0]) ∧ Below w.heap.size w w')) (HV2 : Hid (∀ w, Calls Tryd.prog 6 #[.agg #[.int .i64 a, .int .i64 b, .int .i64 c, .int .i64 g]] w fun e w' => e = .returned (.bool true) ∧ Below w.heap.size w w')) : Calls Tryd.prog 4 #[.agg #[.int .i64 k, .int .i64 d, .int .i64 n, .int .i64 o], .string s] w fun e w' => e = .returned (.bool true) ∧ Below w.heap.size w w' := by
  have A := TB.new w k d n o
  have bl : Below w.heap.size w (w.alloc (.cells #[.int .i64 k, .int .i64 d, .int .i64 n, .int .i64 o] 23)) := (Below.refl _ _).alloc (Nat.le_refl _) _
  obtain ⟨a0, a1, a2, a3⟩ := A.cells
  go_enter Tryd.func4, Tryd.ntmps4
  go_wp2_with (first | (go_at_call 6; (with_reducible refine (HV.out _).mono ?_); rintro e w1 ⟨rfl, hX⟩; have A := A.below hX A.lt; have bl := bl.trans (hX.mono bl.size); clear hX; obtain ⟨a0, a1, a2, a3⟩ := A.cells) | (go_at_call 9; (with_reducible refine (HT.out _ bl).mono ?_); rintro e w2 ⟨rfl, hX⟩; have A := A.below hX A.lt; have bl := bl.trans (hX.mono bl.size); clear hX; obtain ⟨a0, a1, a2, a3⟩ := A.cells) | (go_at_call 12; (with_reducible refine (HP1.out _).mono ?_); rintro e w3 ⟨rfl, hX⟩; have A := A.below hX A.lt; have bl := bl.trans (hX.mono bl.size); clear hX; have A := A.alloc (.cells #[.int .i64 k, .int .i64 d, .int .i64 n, .int .i64 o] 23); have X := TB.new w3 k d n o; have bl := bl.alloc bl.size (.cells #[.int .i64 k, .int .i64 d, .int .i64 n, .int .i64 o] 23); obtain ⟨a0, a1, a2, a3⟩ := A.cells; obtain ⟨x0, x1, x2, x3⟩ := X.cells) | (go_at_call 12; (with_reducible refine (HP.out _).mono ?_); rintro e w4 ⟨rfl, hX⟩; have bl := bl.trans (hX.mono bl.size); clear hX; have Y := TB.new w4 a b c g; have bl := bl.alloc bl.size (.cells #[.int .i64 a, .int .i64 b, .int .i64 c, .int .i64 g] 23); obtain ⟨y0, y1, y2, y3⟩ := Y.cells) | (go_at_call 9; (with_reducible refine (HT2.out _ bl).mono ?_); rintro e w5 ⟨rfl, hX⟩; have Y := Y.below hX Y.lt; have bl := bl.trans (hX.mono bl.size); clear hX; obtain ⟨y0, y1, y2, y3⟩ := Y.cells) | (go_at_call 12; (with_reducible refine (HP2.out _).mono ?_); rintro e w6 ⟨rfl, hX⟩; have Y := Y.below hX Y.lt; have bl := bl.trans (hX.mono bl.size); clear hX; have Y := Y.alloc (.cells #[.int .i64 a, .int .i64 b, .int .i64 c, .int .i64 g] 23); have V := TB.new w6 a b c g; have bl := bl.alloc bl.size (.cells #[.int .i64 a, .int .i64 b, .int .i64 c, .int .i64 g] 23); obtain ⟨y0, y1, y2, y3⟩ := Y.cells; obtain ⟨v0, v1, v2, v3⟩ := V.cells) | (go_at_call 6; (with_reducible refine (HV2.out _).mono ?_); rintro e w7 ⟨rfl, hX⟩; have Y := Y.below hX Y.lt; have V := V.below hX V.lt; have bl := bl.trans (hX.mono bl.size); clear hX; obtain ⟨y0, y1, y2, y3⟩ := Y.cells; obtain ⟨v0, v1, v2, v3⟩ := V.cells) | (go_at_call 7; (with_reducible refine (HAW.out _ bl).mono ?_); rintro e w8 ⟨rfl, hX⟩; have bl := bl.trans (hX.mono bl.size); clear hX))
  go_ret
  exact ⟨rfl, bl⟩
set_option maxRecDepth 100000 in
set_option maxHeartbeats 4000000 in
theorem back_v2 (k d n o a b c g : Int) (s s1 s2 : ByteArray) (w : World) (HAW : Hid (∀ w' : World, Below w.heap.size w w' → Calls Tryd.prog 7 #[] w' fun e w'' => e = .returned (.bool true) ∧ Below w'.heap.size w' w'')) (HV : Hid (∀ w, Calls Tryd.prog 6 #[.agg #[.int .i64 k, .int .i64 d, .int .i64 n, .int .i64 o]] w fun e w' => e = .returned (.bool true) ∧ Below w.heap.size w w')) (HT : Hid (∀ w' : World, Below w.heap.size w w' → Calls Tryd.prog 9 #[.agg #[.int .i64 k, .int .i64 d, .int .i64 n, .int .i64 o]] w' fun e w'' => e = .returned (.string s1) ∧ Below w'.heap.size w' w'')) (HP1 : Hid (∀ w, Calls Tryd.prog 12 #[.string s1] w fun e w' => e = .returned (.tuple #[.agg #[.int .i64 k, .int .i64 d, .int .i64 n, .int .i64 o], .int .i64 0]) ∧ Below w.heap.size w w')) (HP : Hid (∀ w, Calls Tryd.prog 12 #[.string s] w fun e w' => e = .returned (.tuple #[.agg #[.int .i64 0, .int .i64 0, .int .i64 0, .int .i64 0], .int .i64 2]) ∧ Below w.heap.size w w')) : Calls Tryd.prog 4 #[.agg #[.int .i64 k, .int .i64 d, .int .i64 n, .int .i64 o], .string s] w fun e w' => e = .returned (.bool true) ∧ Below w.heap.size w w' := by
  have A := TB.new w k d n o
  have bl : Below w.heap.size w (w.alloc (.cells #[.int .i64 k, .int .i64 d, .int .i64 n, .int .i64 o] 23)) := (Below.refl _ _).alloc (Nat.le_refl _) _
  obtain ⟨a0, a1, a2, a3⟩ := A.cells
  go_enter Tryd.func4, Tryd.ntmps4
  go_wp2_with (first | (go_at_call 6; (with_reducible refine (HV.out _).mono ?_); rintro e w1 ⟨rfl, hX⟩; have A := A.below hX A.lt; have bl := bl.trans (hX.mono bl.size); clear hX; obtain ⟨a0, a1, a2, a3⟩ := A.cells) | (go_at_call 9; (with_reducible refine (HT.out _ bl).mono ?_); rintro e w2 ⟨rfl, hX⟩; have A := A.below hX A.lt; have bl := bl.trans (hX.mono bl.size); clear hX; obtain ⟨a0, a1, a2, a3⟩ := A.cells) | (go_at_call 12; (with_reducible refine (HP1.out _).mono ?_); rintro e w3 ⟨rfl, hX⟩; have A := A.below hX A.lt; have bl := bl.trans (hX.mono bl.size); clear hX; have A := A.alloc (.cells #[.int .i64 k, .int .i64 d, .int .i64 n, .int .i64 o] 23); have X := TB.new w3 k d n o; have bl := bl.alloc bl.size (.cells #[.int .i64 k, .int .i64 d, .int .i64 n, .int .i64 o] 23); obtain ⟨a0, a1, a2, a3⟩ := A.cells; obtain ⟨x0, x1, x2, x3⟩ := X.cells) | (go_at_call 12; (with_reducible refine (HP.out _).mono ?_); rintro e w4 ⟨rfl, hX⟩; have bl := bl.trans (hX.mono bl.size); clear hX; have Y := TB.new w4 0 0 0 0; have bl := bl.alloc bl.size (.cells #[.int .i64 0, .int .i64 0, .int .i64 0, .int .i64 0] 23); obtain ⟨y0, y1, y2, y3⟩ := Y.cells) | (go_at_call 7; (with_reducible refine (HAW.out _ bl).mono ?_); rintro e w8 ⟨rfl, hX⟩; have bl := bl.trans (hX.mono bl.size); clear hX))
  go_ret
  exact ⟨rfl, bl⟩
set_option maxRecDepth 100000 in
set_option maxHeartbeats 4000000 in
theorem back_v3 (k d n o a b c g : Int) (s s1 s2 : ByteArray) (w : World) (HAW : Hid (∀ w' : World, Below w.heap.size w w' → Calls Tryd.prog 7 #[] w' fun e w'' => e = .returned (.bool true) ∧ Below w'.heap.size w' w'')) (HV : Hid (∀ w, Calls Tryd.prog 6 #[.agg #[.int .i64 k, .int .i64 d, .int .i64 n, .int .i64 o]] w fun e w' => e = .returned (.bool true) ∧ Below w.heap.size w w')) (HT : Hid (∀ w' : World, Below w.heap.size w w' → Calls Tryd.prog 9 #[.agg #[.int .i64 k, .int .i64 d, .int .i64 n, .int .i64 o]] w' fun e w'' => e = .returned (.string s1) ∧ Below w'.heap.size w' w'')) (HP1 : Hid (∀ w, Calls Tryd.prog 12 #[.string s1] w fun e w' => e = .returned (.tuple #[.agg #[.int .i64 k, .int .i64 d, .int .i64 n, .int .i64 o], .int .i64 0]) ∧ Below w.heap.size w w')) (HP : Hid (∀ w, Calls Tryd.prog 12 #[.string s] w fun e w' => e = .returned (.tuple #[.agg #[.int .i64 0, .int .i64 0, .int .i64 0, .int .i64 0], .int .i64 3]) ∧ Below w.heap.size w w')) : Calls Tryd.prog 4 #[.agg #[.int .i64 k, .int .i64 d, .int .i64 n, .int .i64 o], .string s] w fun e w' => e = .returned (.bool true) ∧ Below w.heap.size w w' := by
  have A := TB.new w k d n o
  have bl : Below w.heap.size w (w.alloc (.cells #[.int .i64 k, .int .i64 d, .int .i64 n, .int .i64 o] 23)) := (Below.refl _ _).alloc (Nat.le_refl _) _
  obtain ⟨a0, a1, a2, a3⟩ := A.cells
  go_enter Tryd.func4, Tryd.ntmps4
  go_wp2_with (first | (go_at_call 6; (with_reducible refine (HV.out _).mono ?_); rintro e w1 ⟨rfl, hX⟩; have A := A.below hX A.lt; have bl := bl.trans (hX.mono bl.size); clear hX; obtain ⟨a0, a1, a2, a3⟩ := A.cells) | (go_at_call 9; (with_reducible refine (HT.out _ bl).mono ?_); rintro e w2 ⟨rfl, hX⟩; have A := A.below hX A.lt; have bl := bl.trans (hX.mono bl.size); clear hX; obtain ⟨a0, a1, a2, a3⟩ := A.cells) | (go_at_call 12; (with_reducible refine (HP1.out _).mono ?_); rintro e w3 ⟨rfl, hX⟩; have A := A.below hX A.lt; have bl := bl.trans (hX.mono bl.size); clear hX; have A := A.alloc (.cells #[.int .i64 k, .int .i64 d, .int .i64 n, .int .i64 o] 23); have X := TB.new w3 k d n o; have bl := bl.alloc bl.size (.cells #[.int .i64 k, .int .i64 d, .int .i64 n, .int .i64 o] 23); obtain ⟨a0, a1, a2, a3⟩ := A.cells; obtain ⟨x0, x1, x2, x3⟩ := X.cells) | (go_at_call 12; (with_reducible refine (HP.out _).mono ?_); rintro e w4 ⟨rfl, hX⟩; have bl := bl.trans (hX.mono bl.size); clear hX; have Y := TB.new w4 0 0 0 0; have bl := bl.alloc bl.size (.cells #[.int .i64 0, .int .i64 0, .int .i64 0, .int .i64 0] 23); obtain ⟨y0, y1, y2, y3⟩ := Y.cells) | (go_at_call 7; (with_reducible refine (HAW.out _ bl).mono ?_); rintro e w8 ⟨rfl, hX⟩; have bl := bl.trans (hX.mono bl.size); clear hX))
  go_ret
  exact ⟨rfl, bl⟩
set_option maxRecDepth 100000 in
set_option maxHeartbeats 4000000 in
theorem back_nok (k d n o a b c g : Int) (s s1 s2 : ByteArray) (w : World) (HAW : Hid (∀ w' : World, Below w.heap.size w w' → Calls Tryd.prog 7 #[] w' fun e w'' => e = .returned (.bool true) ∧ Below w'.heap.size w' w'')) (HV : Hid (∀ w, Calls Tryd.prog 6 #[.agg #[.int .i64 k, .int .i64 d, .int .i64 n, .int .i64 o]] w fun e w' => e = .returned (.bool false) ∧ Below w.heap.size w w')) (HT : Hid (∀ w' : World, Below w.heap.size w w' → Calls Tryd.prog 9 #[.agg #[.int .i64 k, .int .i64 d, .int .i64 n, .int .i64 o]] w' fun e w'' => e = .returned (.string ⟨#[]⟩) ∧ Below w'.heap.size w' w'')) (HP : Hid (∀ w, Calls Tryd.prog 12 #[.string s] w fun e w' => e = .returned (.tuple #[.agg #[.int .i64 a, .int .i64 b, .int .i64 c, .int .i64 g], .int .i64 0]) ∧ Below w.heap.size w w')) (HT2 : Hid (∀ w' : World, Below w.heap.size w w' → Calls Tryd.prog 9 #[.agg #[.int .i64 a, .int .i64 b, .int .i64 c, .int .i64 g]] w' fun e w'' => e = .returned (.string s2) ∧ Below w'.heap.size w' w'')) (HP2 : Hid (∀ w, Calls Tryd.prog 12 #[.string s2] w fun e w' => e = .returned (.tuple #[.agg #[.int .i64 a, .int .i64 b, .int .i64 c, .int .i64 g], .int .i64 0]) ∧ Below w.heap.size w w')) (HV2 : Hid (∀ w, Calls Tryd.prog 6 #[.agg #[.int .i64 a, .int .i64 b, .int .i64 c, .int .i64 g]] w fun e w' => e = .returned (.bool true) ∧ Below w.heap.size w w')) : Calls Tryd.prog 4 #[.agg #[.int .i64 k, .int .i64 d, .int .i64 n, .int .i64 o], .string s] w fun e w' => e = .returned (.bool true) ∧ Below w.heap.size w w' := by
  have A := TB.new w k d n o
  have bl : Below w.heap.size w (w.alloc (.cells #[.int .i64 k, .int .i64 d, .int .i64 n, .int .i64 o] 23)) := (Below.refl _ _).alloc (Nat.le_refl _) _
  obtain ⟨a0, a1, a2, a3⟩ := A.cells
  go_enter Tryd.func4, Tryd.ntmps4
  go_wp2_with (first | (go_at_call 6; (with_reducible refine (HV.out _).mono ?_); rintro e w1 ⟨rfl, hX⟩; have A := A.below hX A.lt; have bl := bl.trans (hX.mono bl.size); clear hX; obtain ⟨a0, a1, a2, a3⟩ := A.cells) | (go_at_call 9; (with_reducible refine (HT.out _ bl).mono ?_); rintro e w2 ⟨rfl, hX⟩; have A := A.below hX A.lt; have bl := bl.trans (hX.mono bl.size); clear hX; obtain ⟨a0, a1, a2, a3⟩ := A.cells) | (go_at_call 12; (with_reducible refine (HP.out _).mono ?_); rintro e w4 ⟨rfl, hX⟩; have bl := bl.trans (hX.mono bl.size); clear hX; have Y := TB.new w4 a b c g; have bl := bl.alloc bl.size (.cells #[.int .i64 a, .int .i64 b, .int .i64 c, .int .i64 g] 23); obtain ⟨y0, y1, y2, y3⟩ := Y.cells) | (go_at_call 9; (with_reducible refine (HT2.out _ bl).mono ?_); rintro e w5 ⟨rfl, hX⟩; have Y := Y.below hX Y.lt; have bl := bl.trans (hX.mono bl.size); clear hX; obtain ⟨y0, y1, y2, y3⟩ := Y.cells) | (go_at_call 12; (with_reducible refine (HP2.out _).mono ?_); rintro e w6 ⟨rfl, hX⟩; have Y := Y.below hX Y.lt; have bl := bl.trans (hX.mono bl.size); clear hX; have Y := Y.alloc (.cells #[.int .i64 a, .int .i64 b, .int .i64 c, .int .i64 g] 23); have V := TB.new w6 a b c g; have bl := bl.alloc bl.size (.cells #[.int .i64 a, .int .i64 b, .int .i64 c, .int .i64 g] 23); obtain ⟨y0, y1, y2, y3⟩ := Y.cells; obtain ⟨v0, v1, v2, v3⟩ := V.cells) | (go_at_call 6; (with_reducible refine (HV2.out _).mono ?_); rintro e w7 ⟨rfl, hX⟩; have Y := Y.below hX Y.lt; have V := V.below hX V.lt; have bl := bl.trans (hX.mono bl.size); clear hX; obtain ⟨y0, y1, y2, y3⟩ := Y.cells; obtain ⟨v0, v1, v2, v3⟩ := V.cells) | (go_at_call 7; (with_reducible refine (HAW.out _ bl).mono ?_); rintro e w8 ⟨rfl, hX⟩; have bl := bl.trans (hX.mono bl.size); clear hX))
  go_ret
  exact ⟨rfl, bl⟩
set_option maxRecDepth 100000 in
set_option maxHeartbeats 4000000 in
theorem back_n2 (k d n o a b c g : Int) (s s1 s2 : ByteArray) (w : World) (HAW : Hid (∀ w' : World, Below w.heap.size w w' → Calls Tryd.prog 7 #[] w' fun e w'' => e = .returned (.bool true) ∧ Below w'.heap.size w' w'')) (HV : Hid (∀ w, Calls Tryd.prog 6 #[.agg #[.int .i64 k, .int .i64 d, .int .i64 n, .int .i64 o]] w fun e w' => e = .returned (.bool false) ∧ Below w.heap.size w w')) (HT : Hid (∀ w' : World, Below w.heap.size w w' → Calls Tryd.prog 9 #[.agg #[.int .i64 k, .int .i64 d, .int .i64 n, .int .i64 o]] w' fun e w'' => e = .returned (.string ⟨#[]⟩) ∧ Below w'.heap.size w' w'')) (HP : Hid (∀ w, Calls Tryd.prog 12 #[.string s] w fun e w' => e = .returned (.tuple #[.agg #[.int .i64 0, .int .i64 0, .int .i64 0, .int .i64 0], .int .i64 2]) ∧ Below w.heap.size w w')) : Calls Tryd.prog 4 #[.agg #[.int .i64 k, .int .i64 d, .int .i64 n, .int .i64 o], .string s] w fun e w' => e = .returned (.bool true) ∧ Below w.heap.size w w' := by
  have A := TB.new w k d n o
  have bl : Below w.heap.size w (w.alloc (.cells #[.int .i64 k, .int .i64 d, .int .i64 n, .int .i64 o] 23)) := (Below.refl _ _).alloc (Nat.le_refl _) _
  obtain ⟨a0, a1, a2, a3⟩ := A.cells
  go_enter Tryd.func4, Tryd.ntmps4
  go_wp2_with (first | (go_at_call 6; (with_reducible refine (HV.out _).mono ?_); rintro e w1 ⟨rfl, hX⟩; have A := A.below hX A.lt; have bl := bl.trans (hX.mono bl.size); clear hX; obtain ⟨a0, a1, a2, a3⟩ := A.cells) | (go_at_call 9; (with_reducible refine (HT.out _ bl).mono ?_); rintro e w2 ⟨rfl, hX⟩; have A := A.below hX A.lt; have bl := bl.trans (hX.mono bl.size); clear hX; obtain ⟨a0, a1, a2, a3⟩ := A.cells) | (go_at_call 12; (with_reducible refine (HP.out _).mono ?_); rintro e w4 ⟨rfl, hX⟩; have bl := bl.trans (hX.mono bl.size); clear hX; have Y := TB.new w4 0 0 0 0; have bl := bl.alloc bl.size (.cells #[.int .i64 0, .int .i64 0, .int .i64 0, .int .i64 0] 23); obtain ⟨y0, y1, y2, y3⟩ := Y.cells) | (go_at_call 7; (with_reducible refine (HAW.out _ bl).mono ?_); rintro e w8 ⟨rfl, hX⟩; have bl := bl.trans (hX.mono bl.size); clear hX))
  go_ret
  exact ⟨rfl, bl⟩
set_option maxRecDepth 100000 in
set_option maxHeartbeats 4000000 in
theorem back_n3 (k d n o a b c g : Int) (s s1 s2 : ByteArray) (w : World) (HAW : Hid (∀ w' : World, Below w.heap.size w w' → Calls Tryd.prog 7 #[] w' fun e w'' => e = .returned (.bool true) ∧ Below w'.heap.size w' w'')) (HV : Hid (∀ w, Calls Tryd.prog 6 #[.agg #[.int .i64 k, .int .i64 d, .int .i64 n, .int .i64 o]] w fun e w' => e = .returned (.bool false) ∧ Below w.heap.size w w')) (HT : Hid (∀ w' : World, Below w.heap.size w w' → Calls Tryd.prog 9 #[.agg #[.int .i64 k, .int .i64 d, .int .i64 n, .int .i64 o]] w' fun e w'' => e = .returned (.string ⟨#[]⟩) ∧ Below w'.heap.size w' w'')) (HP : Hid (∀ w, Calls Tryd.prog 12 #[.string s] w fun e w' => e = .returned (.tuple #[.agg #[.int .i64 0, .int .i64 0, .int .i64 0, .int .i64 0], .int .i64 3]) ∧ Below w.heap.size w w')) : Calls Tryd.prog 4 #[.agg #[.int .i64 k, .int .i64 d, .int .i64 n, .int .i64 o], .string s] w fun e w' => e = .returned (.bool true) ∧ Below w.heap.size w w' := by
  have A := TB.new w k d n o
  have bl : Below w.heap.size w (w.alloc (.cells #[.int .i64 k, .int .i64 d, .int .i64 n, .int .i64 o] 23)) := (Below.refl _ _).alloc (Nat.le_refl _) _
  obtain ⟨a0, a1, a2, a3⟩ := A.cells
  go_enter Tryd.func4, Tryd.ntmps4
  go_wp2_with (first | (go_at_call 6; (with_reducible refine (HV.out _).mono ?_); rintro e w1 ⟨rfl, hX⟩; have A := A.below hX A.lt; have bl := bl.trans (hX.mono bl.size); clear hX; obtain ⟨a0, a1, a2, a3⟩ := A.cells) | (go_at_call 9; (with_reducible refine (HT.out _ bl).mono ?_); rintro e w2 ⟨rfl, hX⟩; have A := A.below hX A.lt; have bl := bl.trans (hX.mono bl.size); clear hX; obtain ⟨a0, a1, a2, a3⟩ := A.cells) | (go_at_call 12; (with_reducible refine (HP.out _).mono ?_); rintro e w4 ⟨rfl, hX⟩; have bl := bl.trans (hX.mono bl.size); clear hX; have Y := TB.new w4 0 0 0 0; have bl := bl.alloc bl.size (.cells #[.int .i64 0, .int .i64 0, .int .i64 0, .int .i64 0] 23); obtain ⟨y0, y1, y2, y3⟩ := Y.cells) | (go_at_call 7; (with_reducible refine (HAW.out _ bl).mono ?_); rintro e w8 ⟨rfl, hX⟩; have bl := bl.trans (hX.mono bl.size); clear hX))
  go_ret
  exact ⟨rfl, bl⟩
theorem tx_len (k : Int) (y m d n : Nat) (o : Int) : (txL k y m d n o).length ≤ 100 := by
  have h1 := dtL_len y m d
  have h2 := c3L_len n
  have h3 : (fL n).length ≤ 10 := by
    unfold fL
    split
    · simp
    · have hb := congrArg List.length (trim_back (pd 9 (n % 1000000000)))
      rw [pd_len, List.length_append] at hb
      simp only [List.length_cons]
      omega
  have h4 : (znL o).length ≤ 6 := by
    unfold znL
    split
    · simp
    · simp [pd_len]
  have h5 : (clL n).length ≤ 18 := by unfold clL; rw [List.length_append]; omega
  unfold txL
  split
  · omega
  · split
    · omega
    · split
      · simp only [List.length_append, List.length_cons]; omega
      · simp only [List.length_append, List.length_cons]; omega
/-- The text of a valid time, and what it says. -/
theorem text_says {k d n o : Int} (hv : vP k d n o) : ∃ s : ByteArray, (∀ w, Tb w → Calls Tryd.prog 9 #[.agg #[.int .i64 k, .int .i64 d, .int .i64 n, .int .i64 o]] w fun e w' => e = .returned (.string s) ∧ Below w.heap.size w w') ∧ (∀ w, Calls Tryd.prog 12 #[.string s] w fun e w' => e = .returned (.tuple #[.agg #[.int .i64 k, .int .i64 d, .int .i64 n, .int .i64 o], .int .i64 0]) ∧ Below w.heap.size w w') := by
  obtain ⟨k', y, m, dd, n', rfl, rfl, hb, hn, hT⟩ := text_fn hv
  refine ⟨_, hT, fun w => ?_⟩
  have h1 := pa_tx hv hb hn
  rw [← txS_list] at h1
  have h2 := parse_any (txS k' y m dd n' o) w ?_
  · rw [h1] at h2
    exact h2
  · have : (txS k' y m dd n' o).data.toList.length = (txS k' y m dd n' o).size := rfl
    have h3 := tx_len (k' : Int) y m dd n' o
    rw [← txS_list] at h3
    omega
theorem back_walk (k d n o : Int) (s : ByteArray) (w : World) (ht : Tb w) (hs : s.size ≤ maxLen) : Calls Tryd.prog 4 #[.agg #[.int .i64 k, .int .i64 d, .int .i64 n, .int .i64 o], .string s] w fun e w' => e = .returned (.bool true) ∧ Below w.heap.size w w' := by
  replace hs : s.size ≤ 9223372036854775807 := by unfold maxLen at hs; omega
  have HAW := Lib.hid (fun (w' : World) (hb : Below w.heap.size w w') => awake_any w' (ht.next hb))
  have HP := fun w => parse_any s w hs
  by_cases hv : vP k d n o
  · obtain ⟨s1, hT, hP⟩ := text_says hv
    have HV := Lib.hid (fun w => valid_any k d n o w)
    rw [show vT k d n o = true from decide_eq_true hv] at HV
    have HT := Lib.hid (fun (w' : World) (hb : Below w.heap.size w w') => hT w' (ht.next hb))
    rcases pa_any s.data.toList with ⟨a, b, c, g, hp, hu⟩ | hp | hp
    · rw [hp] at HP
      obtain ⟨s2, hT2, hP2⟩ := text_says hu
      have HV2 := Lib.hid (fun w => valid_any a b c g w)
      rw [show vT a b c g = true from decide_eq_true hu] at HV2
      exact back_vok k d n o a b c g s s1 s2 w HAW HV HT (Lib.hid hP) (Lib.hid HP) (Lib.hid (fun (w' : World) (hb : Below w.heap.size w w') => hT2 w' (ht.next hb))) (Lib.hid hP2) HV2
    · rw [hp] at HP
      exact back_v2 k d n o 0 0 0 0 s s1 s1 w HAW HV HT (Lib.hid hP) (Lib.hid HP)
    · rw [hp] at HP
      exact back_v3 k d n o 0 0 0 0 s s1 s1 w HAW HV HT (Lib.hid hP) (Lib.hid HP)
  · have HV := Lib.hid (fun w => valid_any k d n o w)
    rw [show vT k d n o = false from decide_eq_false hv] at HV
    have HT := Lib.hid (fun (w' : World) (hb : Below w.heap.size w w') => text_bad k d n o w' hv)
    rcases pa_any s.data.toList with ⟨a, b, c, g, hp, hu⟩ | hp | hp
    · rw [hp] at HP
      obtain ⟨s2, hT2, hP2⟩ := text_says hu
      have HV2 := Lib.hid (fun w => valid_any a b c g w)
      rw [show vT a b c g = true from decide_eq_true hu] at HV2
      exact back_nok k d n o a b c g s s s2 w HAW HV HT (Lib.hid HP) (Lib.hid (fun (w' : World) (hb : Below w.heap.size w w') => hT2 w' (ht.next hb))) (Lib.hid hP2) HV2
    · rw [hp] at HP
      exact back_n2 k d n o 0 0 0 0 s s s w HAW HV HT (Lib.hid HP)
    · rw [hp] at HP
      exact back_n3 k d n o 0 0 0 0 s s s w HAW HV HT (Lib.hid HP)
end Go.Proofs.YtkbddelacjjapaaDoor.Mom
