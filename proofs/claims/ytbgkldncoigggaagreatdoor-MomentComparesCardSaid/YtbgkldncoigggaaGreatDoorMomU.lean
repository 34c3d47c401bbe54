/-
  The reference of package moment: Cmp, Equal.
-/
import Derived.Test.YtbgkldncoigggaaGreatDoorMomG
import Derived.Deep.RegionHeld3
namespace Go.Proofs.YtbgkldncoigggaaGreatDoor.Mom
open Go.RowKit
set_option linter.unusedVariables false
set_option linter.unusedSimpArgs false
set_option maxRecDepth 100000 in
set_option maxHeartbeats 4000000 in
theorem rsign_any (a b : Int) (w : World) : Calls Tryz.prog 18 #[.int .i64 a, .int .i64 b] w fun e w' => e = .returned (.int .i64 (icmp a b)) ∧ w = w' := by
  by_cases h1 : a < b
  · have HR : icmp a b = -1 := by unfold icmp; rw [if_pos h1]
    rw [HR]; clear HR
    go_enter Tryz.func18, Tryz.ntmps18
    go_wp2
    go_ret
    exact ⟨rfl, rfl⟩
  · by_cases h2 : b < a
    · have HR : icmp a b = 1 := by unfold icmp; rw [if_neg h1, if_pos h2]
      rw [HR]; clear HR
      go_enter Tryz.func18, Tryz.ntmps18
      go_wp2
      go_ret
      exact ⟨rfl, rfl⟩
    · have HR : icmp a b = 0 := by unfold icmp; rw [if_neg h1, if_neg h2]
      rw [HR]; clear HR
      go_enter Tryz.func18, Tryz.ntmps18
      go_wp2
      go_ret
      exact ⟨rfl, rfl⟩
theorem ret_b {a b : Bool} (h : a = b) : Ending.returned (.bool a) = .returned (.bool b) := by rw [h]
theorem ret_i {a b : Int} (h : a = b) : Ending.returned (.int .i64 a) = .returned (.int .i64 b) := by rw [h]
theorem icmp_zero (a b : Int) : icmp a b = 0 ↔ a = b := by
  unfold icmp
  constructor
  · intro h; split at h
    · omega
    · split at h <;> omega
  · rintro rfl; simp
theorem eqT_eq (k1 d1 n1 o1 k2 d2 n2 o2 : Int) : eqT k1 d1 n1 o1 k2 d2 n2 o2 = decide (k1 = k2 ∧ uD d1 n1 o1 = uD d2 n2 o2 ∧ uN n1 o1 = uN n2 o2) := by
  unfold eqT mC
  rw [decide_eq_decide]
  by_cases h : uD d1 n1 o1 = uD d2 n2 o2
  · rw [if_pos ((icmp_zero _ _).mpr h), icmp_zero]; simp [h]
  · rw [if_neg (fun e => h ((icmp_zero _ _).mp e)), icmp_zero]; simp [h]
set_option maxRecDepth 100000 in
set_option maxHeartbeats 4000000 in
theorem requal_any (k1 d1 n1 o1 k2 d2 n2 o2 : Int) (w : World) (h1 : nP d1 n1 o1) (h2 : nP d2 n2 o2) : Calls Tryz.prog 9 #[.agg #[.int .i64 k1, .int .i64 d1, .int .i64 n1, .int .i64 o1], .agg #[.int .i64 k2, .int .i64 d2, .int .i64 n2, .int .i64 o2]] w fun e w' => e = .returned (.bool (eqT k1 d1 n1 o1 k2 d2 n2 o2)) ∧ Below w.heap.size w w' := by
  have T := TT.new w k1 d1 n1 o1 k2 d2 n2 o2
  have HU1 := Lib.hid (fun w => rmoment_any k1 d1 n1 o1 w h1)
  have HU2 := Lib.hid (fun w => rmoment_any k2 d2 n2 o2 w h2)
  rw [eqT_eq]
  generalize uD d1 n1 o1 = A at *
  generalize uD d2 n2 o2 = B at *
  generalize uN n1 o1 = X at *
  generalize uN n2 o2 = Y at *
  clear h1 h2
  obtain ⟨r, hr⟩ : ∃ r, decide (k1 = k2 ∧ A = B ∧ X = Y) = r := ⟨_, rfl⟩
  rw [hr]
  have HR := Lib.hid hr
  clear hr
  go_enter Tryz.func9, Tryz.ntmps9
  go_wp2_with (go_at_call 17; first | ((with_reducible refine (HU1.out _).mono ?_); rintro e w1 ⟨rfl, hX⟩; have T := T.step hX; clear hX; obtain ⟨a0, a1, a2, a3⟩ := T.a.cells; obtain ⟨b0, b1, b2, b3⟩ := T.b.cells) | ((with_reducible refine (HU2.out _).mono ?_); rintro e w1 ⟨rfl, hX⟩; have T := T.step hX; clear hX; obtain ⟨a0, a1, a2, a3⟩ := T.a.cells; obtain ⟨b0, b1, b2, b3⟩ := T.b.cells))
  all_goals (go_ret; refine ⟨ret_b ?_, T.bel⟩; rw [← HR.out]; clear HR T HU1 HU2; rw [Bool.eq_iff_iff]; simp [*])
def fzz : List Int → Int
  | [] => 0
  | c :: t => if c = 0 then fzz t else c
theorem fzz_eq (a b c d : Int) : (if a = 0 then (if (if b = 0 then c else b) = 0 then d else (if b = 0 then c else b)) else a) = fzz [a, b, c, d] := by
  unfold fzz; unfold fzz; unfold fzz; unfold fzz; unfold fzz
  by_cases ha : a = 0 <;> by_cases hb : b = 0 <;> by_cases hc : c = 0 <;> by_cases hd : d = 0 <;> simp [*]
set_option maxRecDepth 100000 in
set_option maxHeartbeats 4000000 in
theorem rcmp_any (k1 d1 n1 o1 k2 d2 n2 o2 : Int) (w : World) (h1 : nP d1 n1 o1) (h2 : nP d2 n2 o2) : Calls Tryz.prog 7 #[.agg #[.int .i64 k1, .int .i64 d1, .int .i64 n1, .int .i64 o1], .agg #[.int .i64 k2, .int .i64 d2, .int .i64 n2, .int .i64 o2]] w fun e w' => e = .returned (.int .i64 (tC k1 d1 n1 o1 k2 d2 n2 o2)) ∧ Below w.heap.size w w' := by
  have T := TT.new w k1 d1 n1 o1 k2 d2 n2 o2
  have HU1 := Lib.hid (fun w => rmoment_any k1 d1 n1 o1 w h1)
  have HU2 := Lib.hid (fun w => rmoment_any k2 d2 n2 o2 w h2)
  unfold tC mC
  generalize uD d1 n1 o1 = A at *
  generalize uD d2 n2 o2 = B at *
  generalize uN n1 o1 = X at *
  generalize uN n2 o2 = Y at *
  clear h1 h2
  have HS1 := Lib.hid (fun w => rsign_any k1 k2 w)
  have HS2 := Lib.hid (fun w => rsign_any A B w)
  have HS3 := Lib.hid (fun w => rsign_any X Y w)
  have HS4 := Lib.hid (fun w => rsign_any o1 o2 w)
  generalize icmp k1 k2 = c1 at *
  generalize icmp A B = c2 at *
  generalize icmp X Y = c3 at *
  generalize icmp o1 o2 = c4 at *
  obtain ⟨r, hr⟩ : ∃ r, (if c1 = 0 then (if (if c2 = 0 then c3 else c2) = 0 then c4 else (if c2 = 0 then c3 else c2)) else c1) = r := ⟨_, rfl⟩
  rw [hr]
  rw [fzz_eq] at hr
  have HR := Lib.hid hr
  clear hr
  go_enter Tryz.func7, Tryz.ntmps7
  go_wp2_with (go_at_call 17; first | ((with_reducible refine (HU1.out _).mono ?_); rintro e w1 ⟨rfl, hX⟩; have T := T.step hX; clear hX; obtain ⟨a0, a1, a2, a3⟩ := T.a.cells; obtain ⟨b0, b1, b2, b3⟩ := T.b.cells) | ((with_reducible refine (HU2.out _).mono ?_); rintro e w1 ⟨rfl, hX⟩; have T := T.step hX; clear hX; obtain ⟨a0, a1, a2, a3⟩ := T.a.cells; obtain ⟨b0, b1, b2, b3⟩ := T.b.cells))
  have bl := T.bel
  go_region_held3 (fun (W : World) => W.cell? ⟨w.heap.size, 0, none⟩ = some (.int .i64 k1) ∧ W.cell? ⟨w.heap.size, 3, none⟩ = some (.int .i64 o1) ∧ W.cell? ⟨w.heap.size + 1, 0, none⟩ = some (.int .i64 k2) ∧ W.cell? ⟨w.heap.size + 1, 3, none⟩ = some (.int .i64 o2)) (go_keep) (first | (go_simp; go_at_call 18; (with_reducible refine (HS1.out _).mono ?_); rintro e w' ⟨rfl, rfl⟩) | (go_simp; go_at_call 18; (with_reducible refine (HS2.out _).mono ?_); rintro e w' ⟨rfl, rfl⟩) | (go_simp; go_at_call 18; (with_reducible refine (HS3.out _).mono ?_); rintro e w' ⟨rfl, rfl⟩) | (go_simp; go_at_call 18; (with_reducible refine (HS4.out _).mono ?_); rintro e w' ⟨rfl, rfl⟩))
  rename_i hH
  clear hH
  have h := Lib.cell_of_heap (heap_alloc_new w1 (.cells #[.int .i64 c1, .int .i64 c2, .int .i64 c3, .int .i64 c4] 3))
  have e0 : (w1.alloc (.cells #[.int .i64 c1, .int .i64 c2, .int .i64 c3, .int .i64 c4] 3)).drew.cell? ⟨w1.heap.size, 0, none⟩ = some (.int .i64 c1) := h 0
  have e1 : (w1.alloc (.cells #[.int .i64 c1, .int .i64 c2, .int .i64 c3, .int .i64 c4] 3)).drew.cell? ⟨w1.heap.size, 1, none⟩ = some (.int .i64 c2) := h 1
  have e2 : (w1.alloc (.cells #[.int .i64 c1, .int .i64 c2, .int .i64 c3, .int .i64 c4] 3)).drew.cell? ⟨w1.heap.size, 2, none⟩ = some (.int .i64 c3) := h 2
  have e3 : (w1.alloc (.cells #[.int .i64 c1, .int .i64 c2, .int .i64 c3, .int .i64 c4] 3)).drew.cell? ⟨w1.heap.size, 3, none⟩ = some (.int .i64 c4) := h 3
  have bl := (bl.alloc bl.size (.cells #[.int .i64 c1, .int .i64 c2, .int .i64 c3, .int .i64 c4] 3)).drew
  clear h a0 a1 a2 a3 b0 b1 b2 b3 HU1 HU2 HS1 HS2 HS3 HS4
  generalize (w1.alloc (.cells #[.int .i64 c1, .int .i64 c2, .int .i64 c3, .int .i64 c4] 3)).drew = W at *
  go_wp2
  go_loopw [39] (fun t wr => ∃ i : Nat, i ≤ 4 ∧ t = .int .i64 i ∧ wr = W ∧ Hid (fzz ([c1, c2, c3, c4].drop i) = r)) (fun t _ => 4 - (intOf t).toNat)
  case atStart => exact ⟨0, by omega, rfl, rfl, HR⟩
  case round =>
    obtain ⟨i, hi, rfl, rfl, HI⟩ := hrel
    clear HR
    have hc : i = 0 ∨ i = 1 ∨ i = 2 ∨ i = 3 ∨ i = 4 := by omega
    clear hi
    rcases hc with rfl | rfl | rfl | rfl | rfl
    · go_wp2
      · go_ret
        refine ⟨ret_i ?_, bl⟩
        rw [← HI.out]; clear HI bl e0 e1 e2 e3; rename_i hz; simp only [bne_iff_ne, ne_eq, bne_eq_false_iff_eq] at hz; simp [fzz, hz]
      · exact ⟨⟨1, by omega, rfl, trivial, Lib.hid (by rw [← HI.out]; clear HI bl e0 e1 e2 e3; rename_i hz; simp only [bne_iff_ne, ne_eq, bne_eq_false_iff_eq] at hz; simp [fzz, hz])⟩, by simp [intOf]⟩
    · go_wp2
      · go_ret
        refine ⟨ret_i ?_, bl⟩
        rw [← HI.out]; clear HI bl e0 e1 e2 e3; rename_i hz; simp only [bne_iff_ne, ne_eq, bne_eq_false_iff_eq] at hz; simp [fzz, hz]
      · exact ⟨⟨2, by omega, rfl, trivial, Lib.hid (by rw [← HI.out]; clear HI bl e0 e1 e2 e3; rename_i hz; simp only [bne_iff_ne, ne_eq, bne_eq_false_iff_eq] at hz; simp [fzz, hz])⟩, by simp [intOf]⟩
    · go_wp2
      · go_ret
        refine ⟨ret_i ?_, bl⟩
        rw [← HI.out]; clear HI bl e0 e1 e2 e3; rename_i hz; simp only [bne_iff_ne, ne_eq, bne_eq_false_iff_eq] at hz; simp [fzz, hz]
      · exact ⟨⟨3, by omega, rfl, trivial, Lib.hid (by rw [← HI.out]; clear HI bl e0 e1 e2 e3; rename_i hz; simp only [bne_iff_ne, ne_eq, bne_eq_false_iff_eq] at hz; simp [fzz, hz])⟩, by simp [intOf]⟩
    · go_wp2
      · go_ret
        refine ⟨ret_i ?_, bl⟩
        rw [← HI.out]; clear HI bl e0 e1 e2 e3; rename_i hz; simp only [bne_iff_ne, ne_eq, bne_eq_false_iff_eq] at hz; simp [fzz, hz]
      · exact ⟨⟨4, by omega, rfl, trivial, Lib.hid (by rw [← HI.out]; clear HI bl e0 e1 e2 e3; rename_i hz; simp only [bne_iff_ne, ne_eq, bne_eq_false_iff_eq] at hz; simp [fzz, hz])⟩, by simp [intOf]⟩
    · go_wp2
      · go_ret
        refine ⟨ret_i ?_, bl⟩
        rw [← HI.out]; clear HI bl e0 e1 e2 e3; simp [fzz, *]
end Go.Proofs.YtbgkldncoigggaaGreatDoor.Mom
