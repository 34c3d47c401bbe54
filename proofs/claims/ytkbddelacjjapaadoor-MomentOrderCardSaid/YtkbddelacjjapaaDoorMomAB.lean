/-
  Package moment: the walk of the law MomentOrder.
-/
import Derived.Test.YtkbddelacjjapaaDoorMomAA
import Derived.Deep.DeepCutAuto
namespace Go.Proofs.YtkbddelacjjapaaDoor.Mom
open Go.RowKit
set_option linter.unusedVariables false
set_option linter.unusedSimpArgs false
open Go.Proofs.YtkbddelacjjapaaDoor.Cal
set_option maxRecDepth 100000 in
set_option maxHeartbeats 8000000 in
theorem order_any (k1 d1 n1 o1 k2 d2 n2 o2 k3 d3 n3 o3 : Int) (off x y z : Int) (s1 s2 : ByteArray) (w : World) (HAW : Hid (∀ w' : World, Below w.heap.size w w' → Calls Tryd.prog 7 #[] w' fun e w'' => e = .returned (.bool true) ∧ Below w'.heap.size w' w'')) (HV1 : Hid (∀ w, Calls Tryd.prog 6 #[.agg #[.int .i64 k1, .int .i64 d1, .int .i64 n1, .int .i64 o1]] w fun e w' => e = .returned (.bool true) ∧ Below w.heap.size w w')) (HV2 : Hid (∀ w, Calls Tryd.prog 6 #[.agg #[.int .i64 k2, .int .i64 d2, .int .i64 n2, .int .i64 o2]] w fun e w' => e = .returned (.bool true) ∧ Below w.heap.size w w')) (HV3 : Hid (∀ w, Calls Tryd.prog 6 #[.agg #[.int .i64 k3, .int .i64 d3, .int .i64 n3, .int .i64 o3]] w fun e w' => e = .returned (.bool true) ∧ Below w.heap.size w w'))
    (HAB : Hid (∀ w, Calls Tryd.prog 8 #[.agg #[.int .i64 k1, .int .i64 d1, .int .i64 n1, .int .i64 o1], .agg #[.int .i64 k2, .int .i64 d2, .int .i64 n2, .int .i64 o2]] w fun e w' => e = .returned (.int .i64 x) ∧ Below w.heap.size w w')) (HBC : Hid (∀ w, Calls Tryd.prog 8 #[.agg #[.int .i64 k2, .int .i64 d2, .int .i64 n2, .int .i64 o2], .agg #[.int .i64 k3, .int .i64 d3, .int .i64 n3, .int .i64 o3]] w fun e w' => e = .returned (.int .i64 y) ∧ Below w.heap.size w w')) (HAC : Hid (∀ w, Calls Tryd.prog 8 #[.agg #[.int .i64 k1, .int .i64 d1, .int .i64 n1, .int .i64 o1], .agg #[.int .i64 k3, .int .i64 d3, .int .i64 n3, .int .i64 o3]] w fun e w' => e = .returned (.int .i64 z) ∧ Below w.heap.size w w')) (HBA : Hid (∀ w, Calls Tryd.prog 8 #[.agg #[.int .i64 k2, .int .i64 d2, .int .i64 n2, .int .i64 o2], .agg #[.int .i64 k1, .int .i64 d1, .int .i64 n1, .int .i64 o1]] w fun e w' => e = .returned (.int .i64 (-x)) ∧ Below w.heap.size w w'))
    (HT1 : Hid (∀ w' : World, Below w.heap.size w w' → Calls Tryd.prog 9 #[.agg #[.int .i64 k1, .int .i64 d1, .int .i64 n1, .int .i64 o1]] w' fun e w'' => e = .returned (.string s1) ∧ Below w'.heap.size w' w'')) (HT2 : Hid (∀ w' : World, Below w.heap.size w w' → Calls Tryd.prog 9 #[.agg #[.int .i64 k2, .int .i64 d2, .int .i64 n2, .int .i64 o2]] w' fun e w'' => e = .returned (.string s2) ∧ Below w'.heap.size w' w''))
    (HD : Hid ((x ≠ 0 ∧ s1 ≠ s2 ∧ (¬ k1 = k2 ∨ (k1 = k2 ∧ ¬ d1 = d2) ∨ (k1 = k2 ∧ d1 = d2 ∧ ¬ n1 = n2) ∨ (k1 = k2 ∧ d1 = d2 ∧ n1 = n2 ∧ ¬ o1 = o2))) ∨ (x = 0 ∧ s1 = s2 ∧ k1 = k2 ∧ d1 = d2 ∧ n1 = n2 ∧ o1 = o2))) (HO : Hid (0 < x ∨ (x ≤ 0 ∧ 0 < y) ∨ (x ≤ 0 ∧ y ≤ 0 ∧ z < 0) ∨ (x = 0 ∧ y = 0 ∧ z = 0))) (HZ : Hid ((∃ ze : Int, ze ≠ 0 ∧ Hid (∀ w, Calls Tryd.prog 10 #[.agg #[.int .i64 k1, .int .i64 d1, .int .i64 n1, .int .i64 o1], .int .i64 off] w fun e w' => e = .returned (.tuple #[.agg #[.int .i64 0, .int .i64 0, .int .i64 0, .int .i64 0], .int .i64 ze]) ∧ Below w.heap.size w w')) ∨ (∃ ub uc ug : Int, Hid (∀ w, Calls Tryd.prog 10 #[.agg #[.int .i64 k1, .int .i64 d1, .int .i64 n1, .int .i64 o1], .int .i64 off] w fun e w' => e = .returned (.tuple #[.agg #[.int .i64 4, .int .i64 ub, .int .i64 uc, .int .i64 ug], .int .i64 0]) ∧ Below w.heap.size w w') ∧ Hid (∀ w, Calls Tryd.prog 11 #[.agg #[.int .i64 k1, .int .i64 d1, .int .i64 n1, .int .i64 o1], .agg #[.int .i64 4, .int .i64 ub, .int .i64 uc, .int .i64 ug]] w fun e w' => e = .returned (.bool true) ∧ Below w.heap.size w w') ∧ ((Hid (∀ w, Calls Tryd.prog 11 #[.agg #[.int .i64 k1, .int .i64 d1, .int .i64 n1, .int .i64 o1], .agg #[.int .i64 k2, .int .i64 d2, .int .i64 n2, .int .i64 o2]] w fun e w' => e = .returned (.bool true) ∧ Below w.heap.size w w') ∧ Hid (∀ w, Calls Tryd.prog 11 #[.agg #[.int .i64 4, .int .i64 ub, .int .i64 uc, .int .i64 ug], .agg #[.int .i64 k2, .int .i64 d2, .int .i64 n2, .int .i64 o2]] w fun e w' => e = .returned (.bool true) ∧ Below w.heap.size w w')) ∨ (Hid (∀ w, Calls Tryd.prog 11 #[.agg #[.int .i64 k1, .int .i64 d1, .int .i64 n1, .int .i64 o1], .agg #[.int .i64 k2, .int .i64 d2, .int .i64 n2, .int .i64 o2]] w fun e w' => e = .returned (.bool false) ∧ Below w.heap.size w w') ∧ Hid (∀ w, Calls Tryd.prog 11 #[.agg #[.int .i64 4, .int .i64 ub, .int .i64 uc, .int .i64 ug], .agg #[.int .i64 k2, .int .i64 d2, .int .i64 n2, .int .i64 o2]] w fun e w' => e = .returned (.bool false) ∧ Below w.heap.size w w') ∧ Hid (∀ w, Calls Tryd.prog 8 #[.agg #[.int .i64 4, .int .i64 ub, .int .i64 uc, .int .i64 ug], .agg #[.int .i64 k2, .int .i64 d2, .int .i64 n2, .int .i64 o2]] w fun e w' => e = .returned (.int .i64 x) ∧ Below w.heap.size w w')))))) (hl1 : ¬ x < -1) (hl3 : ¬ 1 < x) (hl2 : decide (x < -1) = false) (hl4 : decide (1 < x) = false) (hw : IntKind.i64.wrap x = x) :
    Calls Tryd.prog 3 #[.agg #[.int .i64 k1, .int .i64 d1, .int .i64 n1, .int .i64 o1], .agg #[.int .i64 k2, .int .i64 d2, .int .i64 n2, .int .i64 o2], .agg #[.int .i64 k3, .int .i64 d3, .int .i64 n3, .int .i64 o3], .int .i64 off] w fun e w' => e = .returned (.bool true) ∧ Below w.heap.size w w' := by
  have T := T3.new w k1 d1 n1 o1 k2 d2 n2 o2 k3 d3 n3 o3
  go_enter Tryd.func3, Tryd.ntmps3
  go_wp2_with (first | (go_at_call 6; (with_reducible refine (HV1.out _).mono ?_); rintro e w1 ⟨rfl, hX⟩; have T := T3.step hX T; clear hX; obtain ⟨a0, a1, a2, a3, b0, b1, b2, b3, c0, c1, c2, c3⟩ := T.cells) | (go_at_call 6; (with_reducible refine (HV2.out _).mono ?_); rintro e w1 ⟨rfl, hX⟩; have T := T3.step hX T; clear hX; obtain ⟨a0, a1, a2, a3, b0, b1, b2, b3, c0, c1, c2, c3⟩ := T.cells) | (go_at_call 6; (with_reducible refine (HV3.out _).mono ?_); rintro e w1 ⟨rfl, hX⟩; have T := T3.step hX T; clear hX; obtain ⟨a0, a1, a2, a3, b0, b1, b2, b3, c0, c1, c2, c3⟩ := T.cells))
  clear a0 a1 a2 a3 b0 b1 b2 b3 c0 c1 c2 c3
  go_region_held3 (fun (W : World) => T3 w W k1 d1 n1 o1 k2 d2 n2 o2 k3 d3 n3 o3 ∧ W.cell? ⟨w.heap.size, 0, none⟩ = some (.int .i64 k1) ∧ W.cell? ⟨w.heap.size, 1, none⟩ = some (.int .i64 d1) ∧ W.cell? ⟨w.heap.size, 2, none⟩ = some (.int .i64 n1) ∧ W.cell? ⟨w.heap.size, 3, none⟩ = some (.int .i64 o1) ∧ W.cell? ⟨w.heap.size + 1, 0, none⟩ = some (.int .i64 k2) ∧ W.cell? ⟨w.heap.size + 1, 1, none⟩ = some (.int .i64 d2) ∧ W.cell? ⟨w.heap.size + 1, 2, none⟩ = some (.int .i64 n2) ∧ W.cell? ⟨w.heap.size + 1, 3, none⟩ = some (.int .i64 o2) ∧ W.cell? ⟨w.heap.size + 2, 0, none⟩ = some (.int .i64 k3) ∧ W.cell? ⟨w.heap.size + 2, 1, none⟩ = some (.int .i64 d3) ∧ W.cell? ⟨w.heap.size + 2, 2, none⟩ = some (.int .i64 n3) ∧ W.cell? ⟨w.heap.size + 2, 3, none⟩ = some (.int .i64 o3)) ((first | (go_split_ands; exact T3.all (by assumption)) | (go_split_ands; exact T3.all (T3.dr (by assumption))) | (go_split_ands; exact T3.all (T3.step hX (by assumption))))) (first | (go_split_ands; go_at_call 8; (with_reducible refine (HAB.out _).mono ?_); rintro e wn ⟨rfl, hX⟩) | (go_split_ands; go_at_call 8; (with_reducible refine (HBC.out _).mono ?_); rintro e wn ⟨rfl, hX⟩) | (go_split_ands; go_at_call 8; (with_reducible refine (HAC.out _).mono ?_); rintro e wn ⟨rfl, hX⟩))
  rename_i hH
  have T := hH.1
  clear hH
  go_upto_region 4 with fail
  go_cut [69] (fun t69 wx => t69 = .bool false ∧ T3 w wx k1 d1 n1 o1 k2 d2 n2 o2 k3 d3 n3 o3)
  case first => as_aux_lemma =>
    rcases HD.out with ⟨hx0, hs1, hd⟩ | ⟨hx0, hs1, q1, q2, q3, q4⟩
    · have hxe : (x == 0) = false := by simpa using hx0
      have hs3 : ¬ s1.toList = s2.toList := fun e => hs1 (by rw [toList_data, toList_data] at e; exact ByteArray.ext (Array.ext' e))
      have hs2 := beq_eq_false_iff_ne.2 hs3
      clear HD
      rcases hd with hd | ⟨q1, hd⟩ | ⟨q1, q2, hd⟩ | ⟨q1, q2, q3, hd⟩
      · have hdb : (k1 == k2) = false := beq_eq_false_iff_ne.2 hd
        go_region_held3 (fun (W : World) => T3 w W k1 d1 n1 o1 k2 d2 n2 o2 k3 d3 n3 o3 ∧ W.cell? ⟨w.heap.size, 0, none⟩ = some (.int .i64 k1) ∧ W.cell? ⟨w.heap.size, 1, none⟩ = some (.int .i64 d1) ∧ W.cell? ⟨w.heap.size, 2, none⟩ = some (.int .i64 n1) ∧ W.cell? ⟨w.heap.size, 3, none⟩ = some (.int .i64 o1) ∧ W.cell? ⟨w.heap.size + 1, 0, none⟩ = some (.int .i64 k2) ∧ W.cell? ⟨w.heap.size + 1, 1, none⟩ = some (.int .i64 d2) ∧ W.cell? ⟨w.heap.size + 1, 2, none⟩ = some (.int .i64 n2) ∧ W.cell? ⟨w.heap.size + 1, 3, none⟩ = some (.int .i64 o2) ∧ W.cell? ⟨w.heap.size + 2, 0, none⟩ = some (.int .i64 k3) ∧ W.cell? ⟨w.heap.size + 2, 1, none⟩ = some (.int .i64 d3) ∧ W.cell? ⟨w.heap.size + 2, 2, none⟩ = some (.int .i64 n3) ∧ W.cell? ⟨w.heap.size + 2, 3, none⟩ = some (.int .i64 o3)) ((first | (go_split_ands; exact T3.all (by assumption)) | (go_split_ands; exact T3.all (T3.dr (by assumption))) | (go_split_ands; exact T3.all (T3.step hX (by assumption))))) (first | (go_split_ands; go_at_call 8; (with_reducible refine (HBA.out _).mono ?_); rintro e wn ⟨rfl, hX⟩) | (go_split_ands; go_at_call 9; (with_reducible refine (HT1.out _ (T3.bel (by assumption))).mono ?_); rintro e wn ⟨rfl, hX⟩) | (go_split_ands; go_at_call 9; (with_reducible refine (HT2.out _ (T3.bel (by assumption))).mono ?_); rintro e wn ⟨rfl, hX⟩))
        rename_i hH
        have T := hH.1
        clear hH
        go_wp2
        go_meet
        exact ⟨rfl, T⟩
      · subst q1
        have hdb : (d1 == d2) = false := beq_eq_false_iff_ne.2 hd
        go_region_held3 (fun (W : World) => T3 w W k1 d1 n1 o1 k1 d2 n2 o2 k3 d3 n3 o3 ∧ W.cell? ⟨w.heap.size, 0, none⟩ = some (.int .i64 k1) ∧ W.cell? ⟨w.heap.size, 1, none⟩ = some (.int .i64 d1) ∧ W.cell? ⟨w.heap.size, 2, none⟩ = some (.int .i64 n1) ∧ W.cell? ⟨w.heap.size, 3, none⟩ = some (.int .i64 o1) ∧ W.cell? ⟨w.heap.size + 1, 0, none⟩ = some (.int .i64 k1) ∧ W.cell? ⟨w.heap.size + 1, 1, none⟩ = some (.int .i64 d2) ∧ W.cell? ⟨w.heap.size + 1, 2, none⟩ = some (.int .i64 n2) ∧ W.cell? ⟨w.heap.size + 1, 3, none⟩ = some (.int .i64 o2) ∧ W.cell? ⟨w.heap.size + 2, 0, none⟩ = some (.int .i64 k3) ∧ W.cell? ⟨w.heap.size + 2, 1, none⟩ = some (.int .i64 d3) ∧ W.cell? ⟨w.heap.size + 2, 2, none⟩ = some (.int .i64 n3) ∧ W.cell? ⟨w.heap.size + 2, 3, none⟩ = some (.int .i64 o3)) ((first | (go_split_ands; exact T3.all (by assumption)) | (go_split_ands; exact T3.all (T3.dr (by assumption))) | (go_split_ands; exact T3.all (T3.step hX (by assumption))))) (first | (go_split_ands; go_at_call 8; (with_reducible refine (HBA.out _).mono ?_); rintro e wn ⟨rfl, hX⟩) | (go_split_ands; go_at_call 9; (with_reducible refine (HT1.out _ (T3.bel (by assumption))).mono ?_); rintro e wn ⟨rfl, hX⟩) | (go_split_ands; go_at_call 9; (with_reducible refine (HT2.out _ (T3.bel (by assumption))).mono ?_); rintro e wn ⟨rfl, hX⟩))
        rename_i hH
        have T := hH.1
        clear hH
        go_wp2
        go_meet
        exact ⟨rfl, T⟩
      · subst q1 q2
        have hdb : (n1 == n2) = false := beq_eq_false_iff_ne.2 hd
        go_region_held3 (fun (W : World) => T3 w W k1 d1 n1 o1 k1 d1 n2 o2 k3 d3 n3 o3 ∧ W.cell? ⟨w.heap.size, 0, none⟩ = some (.int .i64 k1) ∧ W.cell? ⟨w.heap.size, 1, none⟩ = some (.int .i64 d1) ∧ W.cell? ⟨w.heap.size, 2, none⟩ = some (.int .i64 n1) ∧ W.cell? ⟨w.heap.size, 3, none⟩ = some (.int .i64 o1) ∧ W.cell? ⟨w.heap.size + 1, 0, none⟩ = some (.int .i64 k1) ∧ W.cell? ⟨w.heap.size + 1, 1, none⟩ = some (.int .i64 d1) ∧ W.cell? ⟨w.heap.size + 1, 2, none⟩ = some (.int .i64 n2) ∧ W.cell? ⟨w.heap.size + 1, 3, none⟩ = some (.int .i64 o2) ∧ W.cell? ⟨w.heap.size + 2, 0, none⟩ = some (.int .i64 k3) ∧ W.cell? ⟨w.heap.size + 2, 1, none⟩ = some (.int .i64 d3) ∧ W.cell? ⟨w.heap.size + 2, 2, none⟩ = some (.int .i64 n3) ∧ W.cell? ⟨w.heap.size + 2, 3, none⟩ = some (.int .i64 o3)) ((first | (go_split_ands; exact T3.all (by assumption)) | (go_split_ands; exact T3.all (T3.dr (by assumption))) | (go_split_ands; exact T3.all (T3.step hX (by assumption))))) (first | (go_split_ands; go_at_call 8; (with_reducible refine (HBA.out _).mono ?_); rintro e wn ⟨rfl, hX⟩) | (go_split_ands; go_at_call 9; (with_reducible refine (HT1.out _ (T3.bel (by assumption))).mono ?_); rintro e wn ⟨rfl, hX⟩) | (go_split_ands; go_at_call 9; (with_reducible refine (HT2.out _ (T3.bel (by assumption))).mono ?_); rintro e wn ⟨rfl, hX⟩))
        rename_i hH
        have T := hH.1
        clear hH
        go_wp2
        go_meet
        exact ⟨rfl, T⟩
      · subst q1 q2 q3
        have hdb : (o1 == o2) = false := beq_eq_false_iff_ne.2 hd
        go_region_held3 (fun (W : World) => T3 w W k1 d1 n1 o1 k1 d1 n1 o2 k3 d3 n3 o3 ∧ W.cell? ⟨w.heap.size, 0, none⟩ = some (.int .i64 k1) ∧ W.cell? ⟨w.heap.size, 1, none⟩ = some (.int .i64 d1) ∧ W.cell? ⟨w.heap.size, 2, none⟩ = some (.int .i64 n1) ∧ W.cell? ⟨w.heap.size, 3, none⟩ = some (.int .i64 o1) ∧ W.cell? ⟨w.heap.size + 1, 0, none⟩ = some (.int .i64 k1) ∧ W.cell? ⟨w.heap.size + 1, 1, none⟩ = some (.int .i64 d1) ∧ W.cell? ⟨w.heap.size + 1, 2, none⟩ = some (.int .i64 n1) ∧ W.cell? ⟨w.heap.size + 1, 3, none⟩ = some (.int .i64 o2) ∧ W.cell? ⟨w.heap.size + 2, 0, none⟩ = some (.int .i64 k3) ∧ W.cell? ⟨w.heap.size + 2, 1, none⟩ = some (.int .i64 d3) ∧ W.cell? ⟨w.heap.size + 2, 2, none⟩ = some (.int .i64 n3) ∧ W.cell? ⟨w.heap.size + 2, 3, none⟩ = some (.int .i64 o3)) ((first | (go_split_ands; exact T3.all (by assumption)) | (go_split_ands; exact T3.all (T3.dr (by assumption))) | (go_split_ands; exact T3.all (T3.step hX (by assumption))))) (first | (go_split_ands; go_at_call 8; (with_reducible refine (HBA.out _).mono ?_); rintro e wn ⟨rfl, hX⟩) | (go_split_ands; go_at_call 9; (with_reducible refine (HT1.out _ (T3.bel (by assumption))).mono ?_); rintro e wn ⟨rfl, hX⟩) | (go_split_ands; go_at_call 9; (with_reducible refine (HT2.out _ (T3.bel (by assumption))).mono ?_); rintro e wn ⟨rfl, hX⟩))
        rename_i hH
        have T := hH.1
        clear hH
        go_wp2
        go_meet
        exact ⟨rfl, T⟩
    · subst hx0 hs1 q1 q2 q3 q4
      have HBA0 : Hid (∀ w, Calls Tryd.prog 8 #[.agg #[.int .i64 k1, .int .i64 d1, .int .i64 n1, .int .i64 o1], .agg #[.int .i64 k1, .int .i64 d1, .int .i64 n1, .int .i64 o1]] w fun e w' => e = .returned (.int .i64 0) ∧ Below w.heap.size w w') := HBA
      clear HBA HD
      go_region_held3 (fun (W : World) => T3 w W k1 d1 n1 o1 k1 d1 n1 o1 k3 d3 n3 o3 ∧ W.cell? ⟨w.heap.size, 0, none⟩ = some (.int .i64 k1) ∧ W.cell? ⟨w.heap.size, 1, none⟩ = some (.int .i64 d1) ∧ W.cell? ⟨w.heap.size, 2, none⟩ = some (.int .i64 n1) ∧ W.cell? ⟨w.heap.size, 3, none⟩ = some (.int .i64 o1) ∧ W.cell? ⟨w.heap.size + 1, 0, none⟩ = some (.int .i64 k1) ∧ W.cell? ⟨w.heap.size + 1, 1, none⟩ = some (.int .i64 d1) ∧ W.cell? ⟨w.heap.size + 1, 2, none⟩ = some (.int .i64 n1) ∧ W.cell? ⟨w.heap.size + 1, 3, none⟩ = some (.int .i64 o1) ∧ W.cell? ⟨w.heap.size + 2, 0, none⟩ = some (.int .i64 k3) ∧ W.cell? ⟨w.heap.size + 2, 1, none⟩ = some (.int .i64 d3) ∧ W.cell? ⟨w.heap.size + 2, 2, none⟩ = some (.int .i64 n3) ∧ W.cell? ⟨w.heap.size + 2, 3, none⟩ = some (.int .i64 o3)) ((first | (go_split_ands; exact T3.all (by assumption)) | (go_split_ands; exact T3.all (T3.dr (by assumption))) | (go_split_ands; exact T3.all (T3.step hX (by assumption))))) (first | (go_split_ands; go_at_call 8; (with_reducible refine (HBA0.out _).mono ?_); rintro e wn ⟨rfl, hX⟩) | (go_split_ands; go_at_call 9; (with_reducible refine (HT1.out _ (T3.bel (by assumption))).mono ?_); rintro e wn ⟨rfl, hX⟩) | (go_split_ands; go_at_call 9; (with_reducible refine (HT2.out _ (T3.bel (by assumption))).mono ?_); rintro e wn ⟨rfl, hX⟩))
      rename_i hH
      have T := hH.1
      clear hH
      go_wp2
      go_meet
      exact ⟨rfl, T⟩
  case rest => as_aux_lemma =>
    clear T HD HT1 HT2 HBA
    obtain ⟨rfl, T⟩ := hcut
    go_upto_region 6 with fail
    go_cut [91] (fun t91 wx => t91 = .bool false ∧ T3 w wx k1 d1 n1 o1 k2 d2 n2 o2 k3 d3 n3 o3)
    case first => as_aux_lemma =>
      rcases HO.out with ho | ⟨ho, ho2⟩ | ⟨ho, ho2, ho3⟩ | ⟨rfl, rfl, rfl⟩
      · have b1 : decide (x ≤ 0) = false := decide_eq_false (by omega)
        go_wp2
        go_meet
        exact ⟨rfl, T⟩
      · have b1 : decide (x ≤ 0) = true := decide_eq_true (by omega)
        have b2 : decide (y ≤ 0) = false := decide_eq_false (by omega)
        go_wp2
        go_meet
        exact ⟨rfl, T⟩
      · have b1 : decide (x ≤ 0) = true := decide_eq_true (by omega)
        have b2 : decide (y ≤ 0) = true := decide_eq_true (by omega)
        have b3 : decide (0 < z) = false := decide_eq_false (by omega)
        have b4 : (z == 0) = false := by rw [beq_eq_false_iff_ne]; omega
        go_wp2
        go_meet
        exact ⟨rfl, T⟩
      · go_wp2
        go_meet
        exact ⟨rfl, T⟩
    case rest => as_aux_lemma =>
      clear T HO
      obtain ⟨rfl, T⟩ := hcut
      obtain ⟨a0, a1, a2, a3, b0, b1, b2, b3, c0, c1, c2, c3⟩ := T.cells
      rcases HZ.out with ⟨ze, hze, HZ⟩ | ⟨ub, uc, ug, HZ, HEU, HQ⟩
      · go_wp2_with (first | (go_at_call 10; (with_reducible refine (HZ.out _).mono ?_); rintro e w1 ⟨rfl, hX⟩; have T := T3.step hX T; have bl := T.bel.alloc T.bel.size (.cells #[.int .i64 0, .int .i64 0, .int .i64 0, .int .i64 0] 23); clear hX) | (go_at_call 7; (with_reducible refine (HAW.out _ bl).mono ?_); rintro e w2 ⟨rfl, hX⟩; have bl := bl.trans (hX.mono bl.size); clear hX))
        go_ret
        exact ⟨rfl, bl⟩
      · go_wp2_with (go_at_call 10; go_loud ((with_reducible refine (HZ.out _).mono ?_); rintro e w1 ⟨rfl, hX⟩; have TU := T4.new (T3.step hX T) 4 ub uc ug; clear hX))
        obtain ⟨A, hA⟩ : ∃ A, w1.heap.size = A := ⟨_, rfl⟩
        rw [hA] at TU
        simp only [hA]
        clear a0 a1 a2 a3 b0 b1 b2 b3 c0 c1 c2 c3 T
        rcases HQ with ⟨HE, HF⟩ | ⟨HE, HF, HC⟩
        · as_aux_lemma =>
          refine wp_region_held_drew (S := fun (W : World) => T4 w W A k1 d1 n1 o1 k2 d2 n2 o2 k3 d3 n3 o3 4 ub uc ug ∧ W.cell? ⟨w.heap.size, 0, none⟩ = some (.int .i64 k1) ∧ W.cell? ⟨w.heap.size, 1, none⟩ = some (.int .i64 d1) ∧ W.cell? ⟨w.heap.size, 2, none⟩ = some (.int .i64 n1) ∧ W.cell? ⟨w.heap.size, 3, none⟩ = some (.int .i64 o1) ∧ W.cell? ⟨w.heap.size + 1, 0, none⟩ = some (.int .i64 k2) ∧ W.cell? ⟨w.heap.size + 1, 1, none⟩ = some (.int .i64 d2) ∧ W.cell? ⟨w.heap.size + 1, 2, none⟩ = some (.int .i64 n2) ∧ W.cell? ⟨w.heap.size + 1, 3, none⟩ = some (.int .i64 o2) ∧ W.cell? ⟨w.heap.size + 2, 0, none⟩ = some (.int .i64 k3) ∧ W.cell? ⟨w.heap.size + 2, 1, none⟩ = some (.int .i64 d3) ∧ W.cell? ⟨w.heap.size + 2, 2, none⟩ = some (.int .i64 n3) ∧ W.cell? ⟨w.heap.size + 2, 3, none⟩ = some (.int .i64 o3) ∧ W.cell? ⟨A, 0, none⟩ = some (.int .i64 4) ∧ W.cell? ⟨A, 1, none⟩ = some (.int .i64 ub) ∧ W.cell? ⟨A, 2, none⟩ = some (.int .i64 uc) ∧ W.cell? ⟨A, 3, none⟩ = some (.int .i64 ug)) (by kernel_rfl) (T4.all (T4.dr TU)) (fun hS => ?_)
          clear TU
          refine wpAnyH_take (i := 0) (v := (.agg #[.int .i64 k1, .int .i64 d1, .int .i64 n1, .int .i64 o1])) rfl (by kernel_rfl) (by kernel_rfl) (by kernel_rfl) (fun _ _ _ h => h) (Or.inl ⟨by rfl, by intro w hSw; go_simp⟩) (by assumption) ?_
          simp only [Act.put, List.getElem_toArray, List.getElem_cons_zero, List.getElem_cons_succ, List.setIfInBounds_toArray, List.set_cons_zero, List.set_cons_succ]
          refine wpAnyH_take (i := 1) (v := (.agg #[.int .i64 4, .int .i64 ub, .int .i64 uc, .int .i64 ug])) rfl (by kernel_rfl) (by kernel_rfl) (by kernel_rfl) (fun _ _ _ h => h) (Or.inl ⟨by rfl, by intro w hSw; go_simp⟩) (by assumption) ?_
          simp only [Act.put, List.getElem_toArray, List.getElem_cons_zero, List.getElem_cons_succ, List.setIfInBounds_toArray, List.set_cons_zero, List.set_cons_succ]
          refine wpAnyH_ready (rs := [2]) (by kernel_rfl) (by simp) ?_
          refine AllReadyH.cons rfl (fun K' hK => ?_) AllReadyH.nil
          simp only [List.getElem_toArray, List.getElem_cons_zero, List.getElem_cons_succ]
          go_simp
          go_at_call 11
          refine (HEU.out _).mono ?_
          rintro e wna ⟨rfl, hX⟩
          refine hK.out _ _ (T4.all (T4.step hX hS.1)) (fun hT => ?_)
          clear hX hS
          have hS := hT
          clear hT
          try simp only [Act.put, List.getElem_toArray, List.getElem_cons_zero, List.getElem_cons_succ, List.setIfInBounds_toArray, List.set_cons_zero, List.set_cons_succ]
          refine wpAnyH_take (i := 3) (v := (.bool true)) rfl (by kernel_rfl) (by kernel_rfl) (by kernel_rfl) (fun _ _ _ h => h) (Or.inl ⟨by rfl, by intro w hSw; go_simp⟩) (by assumption) ?_
          simp only [Act.put, List.getElem_toArray, List.getElem_cons_zero, List.getElem_cons_succ, List.setIfInBounds_toArray, List.set_cons_zero, List.set_cons_succ]
          refine wpAnyH_take (i := 4) (v := (.agg #[.int .i64 k1, .int .i64 d1, .int .i64 n1, .int .i64 o1])) rfl (by kernel_rfl) (by kernel_rfl) (by kernel_rfl) (fun _ _ _ h => h) (Or.inl ⟨by rfl, by intro w hSw; go_simp⟩) (by assumption) ?_
          simp only [Act.put, List.getElem_toArray, List.getElem_cons_zero, List.getElem_cons_succ, List.setIfInBounds_toArray, List.set_cons_zero, List.set_cons_succ]
          refine wpAnyH_take (i := 5) (v := (.agg #[.int .i64 k2, .int .i64 d2, .int .i64 n2, .int .i64 o2])) rfl (by kernel_rfl) (by kernel_rfl) (by kernel_rfl) (fun _ _ _ h => h) (Or.inl ⟨by rfl, by intro w hSw; go_simp⟩) (by assumption) ?_
          simp only [Act.put, List.getElem_toArray, List.getElem_cons_zero, List.getElem_cons_succ, List.setIfInBounds_toArray, List.set_cons_zero, List.set_cons_succ]
          refine wpAnyH_take (i := 7) (v := (.agg #[.int .i64 4, .int .i64 ub, .int .i64 uc, .int .i64 ug])) rfl (by kernel_rfl) (by kernel_rfl) (by kernel_rfl) (fun _ _ _ h => h) (Or.inl ⟨by rfl, by intro w hSw; go_simp⟩) (by assumption) ?_
          simp only [Act.put, List.getElem_toArray, List.getElem_cons_zero, List.getElem_cons_succ, List.setIfInBounds_toArray, List.set_cons_zero, List.set_cons_succ]
          refine wpAnyH_take (i := 8) (v := (.agg #[.int .i64 k2, .int .i64 d2, .int .i64 n2, .int .i64 o2])) rfl (by kernel_rfl) (by kernel_rfl) (by kernel_rfl) (fun _ _ _ h => h) (Or.inl ⟨by rfl, by intro w hSw; go_simp⟩) (by assumption) ?_
          simp only [Act.put, List.getElem_toArray, List.getElem_cons_zero, List.getElem_cons_succ, List.setIfInBounds_toArray, List.set_cons_zero, List.set_cons_succ]
          refine wpAnyH_ready (rs := [6]) (by kernel_rfl) (by simp) ?_
          refine AllReadyH.cons rfl (fun K' hK => ?_) AllReadyH.nil
          simp only [List.getElem_toArray, List.getElem_cons_zero, List.getElem_cons_succ]
          go_simp
          go_at_call 11
          refine (HE.out _).mono ?_
          rintro e wne ⟨rfl, hX⟩
          refine hK.out _ _ (T4.all (T4.step hX hS.1)) (fun hT => ?_)
          clear hX hS
          have hS := hT
          clear hT
          try simp only [Act.put, List.getElem_toArray, List.getElem_cons_zero, List.getElem_cons_succ, List.setIfInBounds_toArray, List.set_cons_zero, List.set_cons_succ]
          refine wpAnyH_ready (rs := [9]) (by kernel_rfl) (by simp) ?_
          refine AllReadyH.cons rfl (fun K' hK => ?_) AllReadyH.nil
          simp only [List.getElem_toArray, List.getElem_cons_zero, List.getElem_cons_succ]
          go_simp
          go_at_call 11
          refine (HF.out _).mono ?_
          rintro e wnf ⟨rfl, hX⟩
          refine hK.out _ _ (T4.all (T4.step hX hS.1)) (fun hT => ?_)
          clear hX hS
          have hS := hT
          clear hT
          try simp only [Act.put, List.getElem_toArray, List.getElem_cons_zero, List.getElem_cons_succ, List.setIfInBounds_toArray, List.set_cons_zero, List.set_cons_succ]
          refine wpAnyH_take (i := 10) (v := (.bool true)) rfl (by kernel_rfl) (by kernel_rfl) (by kernel_rfl) (fun _ _ _ h => h) (Or.inl ⟨by rfl, by intro w hSw; go_simp⟩) (by assumption) ?_
          simp only [Act.put, List.getElem_toArray, List.getElem_cons_zero, List.getElem_cons_succ, List.setIfInBounds_toArray, List.set_cons_zero, List.set_cons_succ]
          refine wpAnyH_take (i := 11) (v := (.bool true)) rfl (by kernel_rfl) (by kernel_rfl) (by kernel_rfl) (fun _ _ _ h => h) (Or.inl ⟨by rfl, by intro w hSw; go_simp⟩) (by assumption) ?_
          simp only [Act.put, List.getElem_toArray, List.getElem_cons_zero, List.getElem_cons_succ, List.setIfInBounds_toArray, List.set_cons_zero, List.set_cons_succ]
          refine wpAnyH_take (i := 12) (v := (.bool true)) rfl (by kernel_rfl) (by kernel_rfl) (by kernel_rfl) (fun _ _ _ h => h) (Or.inl ⟨by rfl, by intro w hSw; go_simp⟩) (by assumption) ?_
          simp only [Act.put, List.getElem_toArray, List.getElem_cons_zero, List.getElem_cons_succ, List.setIfInBounds_toArray, List.set_cons_zero, List.set_cons_succ]
          refine wpAnyH_take (i := 13) (v := (.agg #[.int .i64 k1, .int .i64 d1, .int .i64 n1, .int .i64 o1])) rfl (by kernel_rfl) (by kernel_rfl) (by kernel_rfl) (fun _ _ _ h => h) (Or.inl ⟨by rfl, by intro w hSw; go_simp⟩) (by assumption) ?_
          simp only [Act.put, List.getElem_toArray, List.getElem_cons_zero, List.getElem_cons_succ, List.setIfInBounds_toArray, List.set_cons_zero, List.set_cons_succ]
          refine wpAnyH_take (i := 14) (v := (.agg #[.int .i64 k2, .int .i64 d2, .int .i64 n2, .int .i64 o2])) rfl (by kernel_rfl) (by kernel_rfl) (by kernel_rfl) (fun _ _ _ h => h) (Or.inl ⟨by rfl, by intro w hSw; go_simp⟩) (by assumption) ?_
          simp only [Act.put, List.getElem_toArray, List.getElem_cons_zero, List.getElem_cons_succ, List.setIfInBounds_toArray, List.set_cons_zero, List.set_cons_succ]
          refine wpAnyH_ready (rs := [15]) (by kernel_rfl) (by simp) ?_
          refine AllReadyH.cons rfl (fun K' hK => ?_) AllReadyH.nil
          simp only [List.getElem_toArray, List.getElem_cons_zero, List.getElem_cons_succ]
          go_simp
          go_at_call 11
          refine (HE.out _).mono ?_
          rintro e wnc ⟨rfl, hX⟩
          refine hK.out _ _ (T4.all (T4.step hX hS.1)) (fun hT => ?_)
          clear hX hS
          have hS := hT
          clear hT
          try simp only [Act.put, List.getElem_toArray, List.getElem_cons_zero, List.getElem_cons_succ, List.setIfInBounds_toArray, List.set_cons_zero, List.set_cons_succ]
          refine wpAnyH_take (i := 16) (v := (.bool true)) rfl (by kernel_rfl) (by kernel_rfl) (by kernel_rfl) (fun _ _ _ h => h) (Or.inl ⟨by rfl, by intro w hSw; go_simp⟩) (by assumption) ?_
          simp only [Act.put, List.getElem_toArray, List.getElem_cons_zero, List.getElem_cons_succ, List.setIfInBounds_toArray, List.set_cons_zero, List.set_cons_succ]
          refine wpAnyH_take (i := 17) (v := undef) rfl (by kernel_rfl) (by kernel_rfl) (by kernel_rfl) (fun _ _ _ h => h) (Or.inr ⟨by rfl, rfl⟩) (by assumption) ?_
          simp only [Act.put, List.getElem_toArray, List.getElem_cons_zero, List.getElem_cons_succ, List.setIfInBounds_toArray, List.set_cons_zero, List.set_cons_succ]
          refine wpAnyH_take (i := 18) (v := undef) rfl (by kernel_rfl) (by kernel_rfl) (by kernel_rfl) (fun _ _ _ h => h) (Or.inr ⟨by rfl, rfl⟩) (by assumption) ?_
          simp only [Act.put, List.getElem_toArray, List.getElem_cons_zero, List.getElem_cons_succ, List.setIfInBounds_toArray, List.set_cons_zero, List.set_cons_succ]
          refine wpAnyH_take (i := 19) (v := undef) rfl (by kernel_rfl) (by kernel_rfl) (by kernel_rfl) (fun _ _ _ h => h) (Or.inr ⟨by rfl, rfl⟩) (by assumption) ?_
          simp only [Act.put, List.getElem_toArray, List.getElem_cons_zero, List.getElem_cons_succ, List.setIfInBounds_toArray, List.set_cons_zero, List.set_cons_succ]
          refine wpAnyH_take (i := 20) (v := undef) rfl (by kernel_rfl) (by kernel_rfl) (by kernel_rfl) (fun _ _ _ h => h) (Or.inr ⟨by rfl, rfl⟩) (by assumption) ?_
          simp only [Act.put, List.getElem_toArray, List.getElem_cons_zero, List.getElem_cons_succ, List.setIfInBounds_toArray, List.set_cons_zero, List.set_cons_succ]
          refine wpAnyH_take (i := 21) (v := undef) rfl (by kernel_rfl) (by kernel_rfl) (by kernel_rfl) (fun _ _ _ h => h) (Or.inr ⟨by rfl, rfl⟩) (by assumption) ?_
          simp only [Act.put, List.getElem_toArray, List.getElem_cons_zero, List.getElem_cons_succ, List.setIfInBounds_toArray, List.set_cons_zero, List.set_cons_succ]
          refine wpAnyH_take (i := 22) (v := (.bool true)) rfl (by kernel_rfl) (by kernel_rfl) (by kernel_rfl) (fun _ _ _ h => h) (Or.inl ⟨by rfl, by intro w hSw; go_simp⟩) (by assumption) ?_
          simp only [Act.put, List.getElem_toArray, List.getElem_cons_zero, List.getElem_cons_succ, List.setIfInBounds_toArray, List.set_cons_zero, List.set_cons_succ]
          refine wpAnyH_take (i := 23) (v := (.bool true)) rfl (by kernel_rfl) (by kernel_rfl) (by kernel_rfl) (fun _ _ _ h => h) (Or.inl ⟨by rfl, by intro w hSw; go_simp⟩) (by assumption) ?_
          simp only [Act.put, List.getElem_toArray, List.getElem_cons_zero, List.getElem_cons_succ, List.setIfInBounds_toArray, List.set_cons_zero, List.set_cons_succ]
          refine wpAnyH_take (i := 24) (v := (.bool true)) rfl (by kernel_rfl) (by kernel_rfl) (by kernel_rfl) (fun _ _ _ h => h) (Or.inl ⟨by rfl, by intro w hSw; go_simp⟩) (by assumption) ?_
          simp only [Act.put, List.getElem_toArray, List.getElem_cons_zero, List.getElem_cons_succ, List.setIfInBounds_toArray, List.set_cons_zero, List.set_cons_succ]
          refine wpAnyH_ready (rs := [25]) (by kernel_rfl) (by simp) ?_
          refine AllReadyH.cons rfl (fun K' hK => ?_) AllReadyH.nil
          simp only [List.getElem_toArray, List.getElem_cons_zero, List.getElem_cons_succ]
          go_simp
          go_at_call 7
          refine (HAW.out _ (T4.bel hS.1)).mono ?_
          rintro e wnd ⟨rfl, hX⟩
          refine hK.out _ _ (T4.all (T4.step hX hS.1)) (fun hT => ?_)
          clear hX hS
          have hS := hT
          clear hT
          try simp only [Act.put, List.getElem_toArray, List.getElem_cons_zero, List.getElem_cons_succ, List.setIfInBounds_toArray, List.set_cons_zero, List.set_cons_succ]
          refine wpAnyH_take (i := 26) (v := (.bool true)) rfl (by kernel_rfl) (by kernel_rfl) (by kernel_rfl) (fun _ _ _ h => h) (Or.inl ⟨by rfl, by intro w hSw; go_simp⟩) (by assumption) ?_
          simp only [Act.put, List.getElem_toArray, List.getElem_cons_zero, List.getElem_cons_succ, List.setIfInBounds_toArray, List.set_cons_zero, List.set_cons_succ]
          refine wpAnyH_take (i := 27) (v := (.bool true)) rfl (by kernel_rfl) (by kernel_rfl) (by kernel_rfl) (fun _ _ _ h => h) (Or.inl ⟨by rfl, by intro w hSw; go_simp⟩) (by assumption) ?_
          simp only [Act.put, List.getElem_toArray, List.getElem_cons_zero, List.getElem_cons_succ, List.setIfInBounds_toArray, List.set_cons_zero, List.set_cons_succ]
          refine wpAnyH_done (by kernel_rfl) ?_ _
          have bl := T4.bel hS.1
          clear hS
          go_wp2
          go_ret
          exact ⟨rfl, bl⟩
        · as_aux_lemma =>
          go_region_held3 (fun (W : World) => T4 w W A k1 d1 n1 o1 k2 d2 n2 o2 k3 d3 n3 o3 4 ub uc ug ∧ W.cell? ⟨w.heap.size, 0, none⟩ = some (.int .i64 k1) ∧ W.cell? ⟨w.heap.size, 1, none⟩ = some (.int .i64 d1) ∧ W.cell? ⟨w.heap.size, 2, none⟩ = some (.int .i64 n1) ∧ W.cell? ⟨w.heap.size, 3, none⟩ = some (.int .i64 o1) ∧ W.cell? ⟨w.heap.size + 1, 0, none⟩ = some (.int .i64 k2) ∧ W.cell? ⟨w.heap.size + 1, 1, none⟩ = some (.int .i64 d2) ∧ W.cell? ⟨w.heap.size + 1, 2, none⟩ = some (.int .i64 n2) ∧ W.cell? ⟨w.heap.size + 1, 3, none⟩ = some (.int .i64 o2) ∧ W.cell? ⟨w.heap.size + 2, 0, none⟩ = some (.int .i64 k3) ∧ W.cell? ⟨w.heap.size + 2, 1, none⟩ = some (.int .i64 d3) ∧ W.cell? ⟨w.heap.size + 2, 2, none⟩ = some (.int .i64 n3) ∧ W.cell? ⟨w.heap.size + 2, 3, none⟩ = some (.int .i64 o3) ∧ W.cell? ⟨A, 0, none⟩ = some (.int .i64 4) ∧ W.cell? ⟨A, 1, none⟩ = some (.int .i64 ub) ∧ W.cell? ⟨A, 2, none⟩ = some (.int .i64 uc) ∧ W.cell? ⟨A, 3, none⟩ = some (.int .i64 ug)) ((first | (go_split_ands; exact T4.all (by assumption)) | (go_split_ands; exact T4.all (T4.dr (by assumption))) | (go_split_ands; exact T4.all (T4.step hX (by assumption))))) (first | (go_split_ands; go_at_call 11; (with_reducible refine (HEU.out _).mono ?_); rintro e wn ⟨rfl, hX⟩) | (go_split_ands; go_at_call 11; (with_reducible refine (HE.out _).mono ?_); rintro e wn ⟨rfl, hX⟩) | (go_split_ands; go_at_call 11; (with_reducible refine (HF.out _).mono ?_); rintro e wn ⟨rfl, hX⟩) | (go_split_ands; go_at_call 8; (with_reducible refine (HC.out _).mono ?_); rintro e wn ⟨rfl, hX⟩) | (go_split_ands; go_at_call 7; (with_reducible refine (HAW.out _ (T4.bel (by assumption))).mono ?_); rintro e wn ⟨rfl, hX⟩))
          rename_i hH
          have bl := T4.bel hH.1
          clear hH TU
          go_wp2
          go_ret
          exact ⟨rfl, bl⟩
end Go.Proofs.YtkbddelacjjapaaDoor.Mom
