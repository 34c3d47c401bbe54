/-
  Package moment: the law MomentCompares.
-/
import Derived.Test.YtbgkldncoigggaaGreatDoorMomU
import Derived.Test.YtbgkldncoigggaaGreatDoorMomP
namespace Go.Proofs.YtbgkldncoigggaaGreatDoor.Mom
open Go.RowKit
set_option linter.unusedVariables false
set_option linter.unusedSimpArgs false
open Go.Proofs.YtbgkldncoigggaaGreatDoor.Cal
section
variable {w W W' : World} {k1 d1 n1 o1 k2 d2 n2 o2 : Int}
theorem TT.dr (h : TT w W k1 d1 n1 o1 k2 d2 n2 o2) : TT w W.drew k1 d1 n1 o1 k2 d2 n2 o2 := ⟨h.a, h.b, h.bel.drew⟩
theorem TT.stp (hb : Below W.heap.size W W') (h : TT w W k1 d1 n1 o1 k2 d2 n2 o2) : TT w W' k1 d1 n1 o1 k2 d2 n2 o2 := h.step hb
theorem TT.all (h : TT w W k1 d1 n1 o1 k2 d2 n2 o2) : TT w W k1 d1 n1 o1 k2 d2 n2 o2 ∧ W.cell? ⟨w.heap.size, 0, none⟩ = some (.int .i64 k1) ∧ W.cell? ⟨w.heap.size, 1, none⟩ = some (.int .i64 d1) ∧ W.cell? ⟨w.heap.size, 2, none⟩ = some (.int .i64 n1) ∧ W.cell? ⟨w.heap.size, 3, none⟩ = some (.int .i64 o1) ∧ W.cell? ⟨w.heap.size + 1, 0, none⟩ = some (.int .i64 k2) ∧ W.cell? ⟨w.heap.size + 1, 1, none⟩ = some (.int .i64 d2) ∧ W.cell? ⟨w.heap.size + 1, 2, none⟩ = some (.int .i64 n2) ∧ W.cell? ⟨w.heap.size + 1, 3, none⟩ = some (.int .i64 o2) :=
  ⟨h, h.a.cells.1, h.a.cells.2.1, h.a.cells.2.2.1, h.a.cells.2.2.2, h.b.cells.1, h.b.cells.2.1, h.b.cells.2.2.1, h.b.cells.2.2.2⟩
end
set_option maxRecDepth 100000 in
set_option maxHeartbeats 4000000 in
theorem compares_walk (k1 d1 n1 o1 k2 d2 n2 o2 : Int) (w : World) (ht : Tb w) : Calls Tryz.prog 3 #[.agg #[.int .i64 k1, .int .i64 d1, .int .i64 n1, .int .i64 o1], .agg #[.int .i64 k2, .int .i64 d2, .int .i64 n2, .int .i64 o2]] w fun e w' => e = .returned (.bool true) ∧ Below w.heap.size w w' := by
  have T := TT.new w k1 d1 n1 o1 k2 d2 n2 o2
  have HAW := Lib.hid (fun (w' : World) (hb : Below w.heap.size w w') => awake_any w' (ht.next hb))
  have HV1 := Lib.hid (fun w => rvalid_any k1 d1 n1 o1 w)
  have HV2 := Lib.hid (fun w => rvalid_any k2 d2 n2 o2 w)
  by_cases h1 : vP k1 d1 n1 o1
  · rw [← vT_yes h1] at HV1
    by_cases h2 : vP k2 d2 n2 o2
    · rw [← vT_yes h2] at HV2
      have HC := Lib.hid (fun w => tcmp_any k1 d1 n1 o1 k2 d2 n2 o2 w (nP_of h1) (nP_of h2))
      have HRC := Lib.hid (fun w => rcmp_any k1 d1 n1 o1 k2 d2 n2 o2 w (nP_of h1) (nP_of h2))
      have HE := Lib.hid (fun w => equal_any k1 d1 n1 o1 k2 d2 n2 o2 w (nP_of h1) (nP_of h2))
      have HRE := Lib.hid (fun w => requal_any k1 d1 n1 o1 k2 d2 n2 o2 w (nP_of h1) (nP_of h2))
      generalize tC k1 d1 n1 o1 k2 d2 n2 o2 = c at *
      generalize eqT k1 d1 n1 o1 k2 d2 n2 o2 = q at *
      clear ht h1 h2
      go_enter Tryz.func3, Tryz.ntmps3
      go_wp2_with (first | (go_at_call 4; (with_reducible refine (HV1.out _).mono ?_); rintro e w1 ⟨rfl, hX⟩; have T := T.step hX; clear hX; obtain ⟨a0, a1, a2, a3⟩ := T.a.cells; obtain ⟨b0, b1, b2, b3⟩ := T.b.cells) | (go_at_call 4; (with_reducible refine (HV2.out _).mono ?_); rintro e w1 ⟨rfl, hX⟩; have T := T.step hX; clear hX; obtain ⟨a0, a1, a2, a3⟩ := T.a.cells; obtain ⟨b0, b1, b2, b3⟩ := T.b.cells) | (go_at_call 5; go_loud ((with_reducible refine (HAW.out _ T.bel).mono ?_); rintro e w1 ⟨rfl, hX⟩; have T := T.step hX; clear hX; obtain ⟨a0, a1, a2, a3⟩ := T.a.cells; obtain ⟨b0, b1, b2, b3⟩ := T.b.cells)))
      clear a0 a1 a2 a3 b0 b1 b2 b3
      go_region_held3 (fun (W : World) => TT w W k1 d1 n1 o1 k2 d2 n2 o2 ∧ W.cell? ⟨w.heap.size, 0, none⟩ = some (.int .i64 k1) ∧ W.cell? ⟨w.heap.size, 1, none⟩ = some (.int .i64 d1) ∧ W.cell? ⟨w.heap.size, 2, none⟩ = some (.int .i64 n1) ∧ W.cell? ⟨w.heap.size, 3, none⟩ = some (.int .i64 o1) ∧ W.cell? ⟨w.heap.size + 1, 0, none⟩ = some (.int .i64 k2) ∧ W.cell? ⟨w.heap.size + 1, 1, none⟩ = some (.int .i64 d2) ∧ W.cell? ⟨w.heap.size + 1, 2, none⟩ = some (.int .i64 n2) ∧ W.cell? ⟨w.heap.size + 1, 3, none⟩ = some (.int .i64 o2)) ((first | (go_split_ands; exact TT.all (by assumption)) | (go_split_ands; exact TT.all (TT.dr (by assumption))) | (go_split_ands; exact TT.all (TT.stp hX (by assumption))))) (first | (go_split_ands; go_at_call 6; (with_reducible refine (HC.out _).mono ?_); rintro e wn ⟨rfl, hX⟩) | (go_split_ands; go_at_call 7; (with_reducible refine (HRC.out _).mono ?_); rintro e wn ⟨rfl, hX⟩) | (go_split_ands; go_at_call 8; (with_reducible refine (HE.out _).mono ?_); rintro e wn ⟨rfl, hX⟩) | (go_split_ands; go_at_call 9; (with_reducible refine (HRE.out _).mono ?_); rintro e wn ⟨rfl, hX⟩) | (go_split_ands; go_at_call 5; (with_reducible refine (HAW.out _ (TT.bel (by assumption))).mono ?_); rintro e wn ⟨rfl, hX⟩))
      rename_i hH
      have bl := hH.1.bel
      clear hH T
      go_wp2
      go_ret
      exact ⟨rfl, bl⟩
    · rw [← vT_no h2] at HV2
      clear ht h1 h2
      go_enter Tryz.func3, Tryz.ntmps3
      go_wp2_with (first | (go_at_call 4; (with_reducible refine (HV1.out _).mono ?_); rintro e w1 ⟨rfl, hX⟩; have T := T.step hX; clear hX; obtain ⟨a0, a1, a2, a3⟩ := T.a.cells; obtain ⟨b0, b1, b2, b3⟩ := T.b.cells) | (go_at_call 4; (with_reducible refine (HV2.out _).mono ?_); rintro e w1 ⟨rfl, hX⟩; have T := T.step hX; clear hX; obtain ⟨a0, a1, a2, a3⟩ := T.a.cells; obtain ⟨b0, b1, b2, b3⟩ := T.b.cells) | (go_at_call 5; go_loud ((with_reducible refine (HAW.out _ T.bel).mono ?_); rintro e w1 ⟨rfl, hX⟩; have T := T.step hX; clear hX; obtain ⟨a0, a1, a2, a3⟩ := T.a.cells; obtain ⟨b0, b1, b2, b3⟩ := T.b.cells)))
      go_ret
      exact ⟨rfl, T.bel⟩
  · rw [← vT_no h1] at HV1
    clear ht h1
    go_enter Tryz.func3, Tryz.ntmps3
    go_wp2_with (first | (go_at_call 4; (with_reducible refine (HV1.out _).mono ?_); rintro e w1 ⟨rfl, hX⟩; have T := T.step hX; clear hX; obtain ⟨a0, a1, a2, a3⟩ := T.a.cells; obtain ⟨b0, b1, b2, b3⟩ := T.b.cells) | (go_at_call 4; (with_reducible refine (HV2.out _).mono ?_); rintro e w1 ⟨rfl, hX⟩; have T := T.step hX; clear hX; obtain ⟨a0, a1, a2, a3⟩ := T.a.cells; obtain ⟨b0, b1, b2, b3⟩ := T.b.cells) | (go_at_call 5; go_loud ((with_reducible refine (HAW.out _ T.bel).mono ?_); rintro e w1 ⟨rfl, hX⟩; have T := T.step hX; clear hX; obtain ⟨a0, a1, a2, a3⟩ := T.a.cells; obtain ⟨b0, b1, b2, b3⟩ := T.b.cells)))
    go_ret
    exact ⟨rfl, T.bel⟩
end Go.Proofs.YtbgkldncoigggaaGreatDoor.Mom
