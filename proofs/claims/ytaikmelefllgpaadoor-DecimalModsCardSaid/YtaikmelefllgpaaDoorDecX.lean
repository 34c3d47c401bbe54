/-
  Contracts of the reference of decimal: sums.
-/
import Derived.Test.YtaikmelefllgpaaDoorDecW
import Derived.Test.YtaikmelefllgpaaDoorDecR
import Derived.Deep.DeepCutAuto
namespace Go.Proofs.YtaikmelefllgpaaDoor.Dec
open Go.RowKit
set_option linter.unusedVariables false
set_option linter.unusedSimpArgs false
open Go.Proofs.YtaikmelefllgpaaDoor.Dig

theorem S_add {a b k : Nat} (h1 : (S a).size ≤ k) (h2 : (S b).size ≤ k) : (S (a + b)).size ≤ k + 1 := by
  rw [S_size, num_len] at *
  rw [Nat.pow_succ]; omega
set_option maxRecDepth 100000 in
set_option maxHeartbeats 8000000 in
theorem radd_z1 (g1 : Bool) (n1 : Nat) (x1 : Int) (g2 : Bool) (n2 : Nat) (x2 : Int) (w : World) (hn : n1 = 0) : Calls Tryd.prog 32 #[.agg #[.bool g1, .string (S n1), .int .i64 x1], .agg #[.bool g2, .string (S n2), .int .i64 x2]] w fun e w' => e = .returned (.tuple #[.agg #[.bool g2, .string (S n2), .int .i64 x2], .int .i64 0]) ∧ Below w.heap.size w w' := by
  have e1 : (S n1).toList = [] := tl_nil (by rw [hn]; rfl)
  have T := T3.new w g1 (S n1) x1 g2 (S n2) x2
  clear hn
  go_enter Tryd.func32, Tryd.ntmps32
  go_wp2
  exact bodyPost_ret (v := .tuple #[.agg #[.bool g2, .string (S n2), .int .i64 x2], .int .i64 0]) (by simp [results, Tryd.results32, go_sem]) rfl ⟨rfl, (((Below.refl _ _).alloc (Nat.le_refl _) _).alloc (by simp) _).alloc (by simp; try omega) _⟩
set_option maxRecDepth 100000 in
set_option maxHeartbeats 8000000 in
theorem radd_z2 (g1 : Bool) (n1 : Nat) (x1 : Int) (g2 : Bool) (n2 : Nat) (x2 : Int) (w : World) (hn : n2 = 0) (p1 : 0 < n1) : Calls Tryd.prog 32 #[.agg #[.bool g1, .string (S n1), .int .i64 x1], .agg #[.bool g2, .string (S n2), .int .i64 x2]] w fun e w' => e = .returned (.tuple #[.agg #[.bool g1, .string (S n1), .int .i64 x1], .int .i64 0]) ∧ Below w.heap.size w w' := by
  have e1 := tl_ne (S_pos p1)
  have e2 := tl_ne' (S_pos p1)
  have e3 : (S n2).toList = [] := tl_nil (by rw [hn]; rfl)
  have T := T3.new w g1 (S n1) x1 g2 (S n2) x2
  clear hn
  go_enter Tryd.func32, Tryd.ntmps32
  go_wp2
  exact bodyPost_ret (v := .tuple #[.agg #[.bool g1, .string (S n1), .int .i64 x1], .int .i64 0]) (by simp [results, Tryd.results32, go_sem]) rfl ⟨rfl, (((Below.refl _ _).alloc (Nat.le_refl _) _).alloc (by simp) _).alloc (by simp; try omega) _⟩
set_option maxRecDepth 100000 in
set_option maxHeartbeats 8000000 in
theorem radd_same_false (n1 : Nat) (n2 : Nat) (m : Int) (k1 k2 : Nat) (w : World) (p1 : 0 < n1) (p2 : 0 < n2) (s1 : (S n1).size ≤ 120) (s2 : (S n2).size ≤ 120) (hm : -400 ≤ m ∧ m ≤ 400) (hk : k1 = 0 ∨ k2 = 0) (b1 : k1 ≤ 1000) (b2 : k2 ≤ 1000) : Calls Tryd.prog 32 #[.agg #[.bool false, .string (S n1), .int .i64 (m + (k1 : Int))], .agg #[.bool false, .string (S n2), .int .i64 (m + (k2 : Int))]] w fun e w' => e = .returned (.tuple #[.agg #[.bool (nG false (n1 * 10 ^ k1 + n2 * 10 ^ k2) (m)), .string (S (nN (n1 * 10 ^ k1 + n2 * 10 ^ k2) (m))), .int .i64 (nX (n1 * 10 ^ k1 + n2 * 10 ^ k2) (m))], .int .i64 (nE (n1 * 10 ^ k1 + n2 * 10 ^ k2) (m))]) ∧ Below w.heap.size w w' := by
  have e1 := tl_ne (S_pos p1)
  have e2 := tl_ne' (S_pos p1)
  have e3 := tl_ne (S_pos p2)
  have e4 := tl_ne' (S_pos p2)
  have hmin : min (m + (k1 : Int)) (m + (k2 : Int)) = m := by omega
  have HL := Lib.hid (fun w => lower_any false (S n1) (m + (k1 : Int)) false (S n2) (m + (k2 : Int)) w)
  rw [hmin] at HL
  have HA1 := Lib.hid (fun w => at_any false n1 m k1 w p1 s1 hm b1)
  have HA2 := Lib.hid (fun w => at_any false n2 m k2 w p2 s2 hm b2)
  have hA : (S (n1 * 10 ^ k1)).size ≤ 1120 := by have := len_pow p1 k1; rw [S_size] at *; omega
  have hB : (S (n2 * 10 ^ k2)).size ≤ 1120 := by have := len_pow p2 k2; rw [S_size] at *; omega
  have HT := Lib.hid (T3.new w false (S n1) (m + (k1 : Int)) false (S n2) (m + (k2 : Int)))
  clear hmin
  have HU := Lib.hid (fun w => sum_any (n1 * 10 ^ k1) (n2 * 10 ^ k2) w (by omega) (by omega))
  have hC := S_add hA hB
  have HM := Lib.hid (fun w => norm_any false (S (n1 * 10 ^ k1 + n2 * 10 ^ k2)) (n1 * 10 ^ k1 + n2 * 10 ^ k2) m w (Num_S _) (by omega) (by omega))
  obtain ⟨ra, ha⟩ : ∃ a, nG false (n1 * 10 ^ k1 + n2 * 10 ^ k2) (m) = a := ⟨_, rfl⟩
  obtain ⟨rb, hb⟩ : ∃ b, S (nN (n1 * 10 ^ k1 + n2 * 10 ^ k2) (m)) = b := ⟨_, rfl⟩
  obtain ⟨rc, hc⟩ : ∃ c, nX (n1 * 10 ^ k1 + n2 * 10 ^ k2) (m) = c := ⟨_, rfl⟩
  obtain ⟨rd, hd⟩ : ∃ d, nE (n1 * 10 ^ k1 + n2 * 10 ^ k2) (m) = d := ⟨_, rfl⟩
  rw [ha, hb, hc, hd] at HM ⊢
  clear ha hb hc hd
  clear hA hB hC s1 s2
  generalize hCe : S (n1 * 10 ^ k1 + n2 * 10 ^ k2) = C at *
  clear hCe
  generalize n1 * 10 ^ k1 = A0 at *
  generalize n2 * 10 ^ k2 = B0 at *
  generalize S A0 = A at *
  generalize S B0 = B at *
  have T := HT.out
  go_enter Tryd.func32, Tryd.ntmps32
  go_upto_region 6 with ((go_at_call 27; (with_reducible refine (HL.out _).mono ?_); rintro e w1 ⟨rfl, hX⟩; have T := T.step hX; clear hX; obtain ⟨a0, a1, a2⟩ := T.a.cells; obtain ⟨b0, b1, b2⟩ := T.b.cells; obtain ⟨c0, c1, c2⟩ := T.c.cells; have y0 := T.c.fz 0; have y1 := T.c.fz 1; have y2 := T.c.fz 2))
  go_cut [6, 7, 8] (fun t6 t7 t8 wx => t6 = .int .i64 m ∧ t7 = .string A ∧ t8 = .string B ∧ T4 w wx false (S n1) (m + (k1 : Int)) false (S n2) (m + (k2 : Int)))
  case first =>
    have T' := T.four
    clear T a0 a1 a2 b0 b1 b2 c0 c1 c2 y0 y1 y2
    have T := T'
    clear T'
    go_region_held3 (fun (W : World) => T4 w W false (S n1) (m + (k1 : Int)) false (S n2) (m + (k2 : Int)) ∧ W.cell? ⟨w.heap.size, 0, none⟩ = some (.bool false) ∧ W.cell? ⟨w.heap.size, 1, none⟩ = some (.string (S n1)) ∧ W.cell? ⟨w.heap.size, 2, none⟩ = some (.int .i64 (m + (k1 : Int))) ∧ W.cell? ⟨w.heap.size + 1, 0, none⟩ = some (.bool false) ∧ W.cell? ⟨w.heap.size + 1, 1, none⟩ = some (.string (S n2)) ∧ W.cell? ⟨w.heap.size + 1, 2, none⟩ = some (.int .i64 (m + (k2 : Int)))) ((first | (go_split_ands; exact T4.all (by assumption)) | (go_split_ands; exact T4.all (T4.d (by assumption))) | (go_split_ands; exact T4.all (T4.step hX (by assumption))) | (go_split_ands; exact T4.all (T4.put (by assumption) _ _ _)))) (first | (go_at_call 28; (with_reducible refine (HA1.out _).mono ?_); rintro e wn ⟨rfl, hX⟩) | (go_at_call 28; (with_reducible refine (HA2.out _).mono ?_); rintro e wn ⟨rfl, hX⟩))
    all_goals
      rename_i hH
      have T2 := hH.1
      clear hH T
      go_wp2_with fail
      go_meet
      exact ⟨rfl, rfl, rfl, T2⟩
  case rest =>
    obtain ⟨rfl, rfl, rfl, T⟩ := hcut
    obtain ⟨a0, a1, a2⟩ := T.a.cells; obtain ⟨b0, b1, b2⟩ := T.b.cells
    go_wp2_with (fail)
    clear a0 a1 a2 b0 b1 b2
    go_region_held3 (fun (W : World) => T4 w W false (S n1) (m + (k1 : Int)) false (S n2) (m + (k2 : Int)) ∧ W.cell? ⟨w.heap.size, 0, none⟩ = some (.bool false) ∧ W.cell? ⟨w.heap.size, 1, none⟩ = some (.string (S n1)) ∧ W.cell? ⟨w.heap.size, 2, none⟩ = some (.int .i64 (m + (k1 : Int))) ∧ W.cell? ⟨w.heap.size + 1, 0, none⟩ = some (.bool false) ∧ W.cell? ⟨w.heap.size + 1, 1, none⟩ = some (.string (S n2)) ∧ W.cell? ⟨w.heap.size + 1, 2, none⟩ = some (.int .i64 (m + (k2 : Int)))) ((first | (go_split_ands; exact T4.all (by assumption)) | (go_split_ands; exact T4.all (T4.d (by assumption))) | (go_split_ands; exact T4.all (T4.step hX (by assumption))) | (go_split_ands; exact T4.all (T4.put (by assumption) _ _ _)))) (first | (go_at_call 40; (with_reducible refine (HU.out _).mono ?_); rintro e wn ⟨rfl, hX⟩) | (go_at_call 31; (with_reducible refine (HM.out _).mono ?_); rintro e wn ⟨rfl, hX⟩) | (go_split_ands; obtain ⟨g0, s0, z0, hD⟩ := T4.c (by assumption); obtain ⟨c0, c1, c2⟩ := hD.cells; have y0 := hD.fz 0; have y1 := hD.fz 1; have y2 := hD.fz 2; go_simp))
    rename_i hH
    have bl := hH.1.bel
    clear hH T
    go_wp2
    exact bodyPost_ret (v := .tuple #[.agg #[.bool ra, .string rb, .int .i64 rc], .int .i64 rd]) (by simp [results, Tryd.results32, go_sem, c0, c1, c2]) rfl ⟨rfl, bl⟩
set_option maxRecDepth 100000 in
set_option maxHeartbeats 8000000 in
theorem radd_less_false (n1 : Nat) (n2 : Nat) (m : Int) (k1 k2 : Nat) (w : World) (p1 : 0 < n1) (p2 : 0 < n2) (s1 : (S n1).size ≤ 120) (s2 : (S n2).size ≤ 120) (hm : -400 ≤ m ∧ m ≤ 400) (hk : k1 = 0 ∨ k2 = 0) (b1 : k1 ≤ 1000) (b2 : k2 ≤ 1000) (hl : n1 * 10 ^ k1 < n2 * 10 ^ k2) : Calls Tryd.prog 32 #[.agg #[.bool false, .string (S n1), .int .i64 (m + (k1 : Int))], .agg #[.bool true, .string (S n2), .int .i64 (m + (k2 : Int))]] w fun e w' => e = .returned (.tuple #[.agg #[.bool (nG true (n2 * 10 ^ k2 - n1 * 10 ^ k1) (m)), .string (S (nN (n2 * 10 ^ k2 - n1 * 10 ^ k1) (m))), .int .i64 (nX (n2 * 10 ^ k2 - n1 * 10 ^ k1) (m))], .int .i64 (nE (n2 * 10 ^ k2 - n1 * 10 ^ k1) (m))]) ∧ Below w.heap.size w w' := by
  have e1 := tl_ne (S_pos p1)
  have e2 := tl_ne' (S_pos p1)
  have e3 := tl_ne (S_pos p2)
  have e4 := tl_ne' (S_pos p2)
  have hmin : min (m + (k1 : Int)) (m + (k2 : Int)) = m := by omega
  have HL := Lib.hid (fun w => lower_any false (S n1) (m + (k1 : Int)) true (S n2) (m + (k2 : Int)) w)
  rw [hmin] at HL
  have HA1 := Lib.hid (fun w => at_any false n1 m k1 w p1 s1 hm b1)
  have HA2 := Lib.hid (fun w => at_any true n2 m k2 w p2 s2 hm b2)
  have hA : (S (n1 * 10 ^ k1)).size ≤ 1120 := by have := len_pow p1 k1; rw [S_size] at *; omega
  have hB : (S (n2 * 10 ^ k2)).size ≤ 1120 := by have := len_pow p2 k2; rw [S_size] at *; omega
  have HT := Lib.hid (T3.new w false (S n1) (m + (k1 : Int)) true (S n2) (m + (k2 : Int)))
  clear hmin
  have HC := Lib.hid (fun w => rcmp_any (n1 * 10 ^ k1) (n2 * 10 ^ k2) w (by omega) (by omega))
  rw [cmpN_lt hl] at HC
  have HU := Lib.hid (fun w => less_any (n2 * 10 ^ k2) (n1 * 10 ^ k1) w (by omega) (by omega) (by omega))
  have hC := S_less hB (Nat.sub_le (n2 * 10 ^ k2) (n1 * 10 ^ k1))
  have HM := Lib.hid (fun w => norm_any true (S (n2 * 10 ^ k2 - n1 * 10 ^ k1)) (n2 * 10 ^ k2 - n1 * 10 ^ k1) m w (Num_S _) (by omega) (by omega))
  obtain ⟨ra, ha⟩ : ∃ a, nG true (n2 * 10 ^ k2 - n1 * 10 ^ k1) (m) = a := ⟨_, rfl⟩
  obtain ⟨rb, hb⟩ : ∃ b, S (nN (n2 * 10 ^ k2 - n1 * 10 ^ k1) (m)) = b := ⟨_, rfl⟩
  obtain ⟨rc, hc⟩ : ∃ c, nX (n2 * 10 ^ k2 - n1 * 10 ^ k1) (m) = c := ⟨_, rfl⟩
  obtain ⟨rd, hd⟩ : ∃ d, nE (n2 * 10 ^ k2 - n1 * 10 ^ k1) (m) = d := ⟨_, rfl⟩
  rw [ha, hb, hc, hd] at HM ⊢
  clear ha hb hc hd
  clear hA hB hC s1 s2 hl
  generalize hCe : S (n2 * 10 ^ k2 - n1 * 10 ^ k1) = C at *
  clear hCe
  generalize n1 * 10 ^ k1 = A0 at *
  generalize n2 * 10 ^ k2 = B0 at *
  generalize S A0 = A at *
  generalize S B0 = B at *
  have T := HT.out
  go_enter Tryd.func32, Tryd.ntmps32
  go_upto_region 6 with ((go_at_call 27; (with_reducible refine (HL.out _).mono ?_); rintro e w1 ⟨rfl, hX⟩; have T := T.step hX; clear hX; obtain ⟨a0, a1, a2⟩ := T.a.cells; obtain ⟨b0, b1, b2⟩ := T.b.cells; obtain ⟨c0, c1, c2⟩ := T.c.cells; have y0 := T.c.fz 0; have y1 := T.c.fz 1; have y2 := T.c.fz 2))
  go_cut [6, 7, 8] (fun t6 t7 t8 wx => t6 = .int .i64 m ∧ t7 = .string A ∧ t8 = .string B ∧ T4 w wx false (S n1) (m + (k1 : Int)) true (S n2) (m + (k2 : Int)))
  case first =>
    have T' := T.four
    clear T a0 a1 a2 b0 b1 b2 c0 c1 c2 y0 y1 y2
    have T := T'
    clear T'
    go_region_held3 (fun (W : World) => T4 w W false (S n1) (m + (k1 : Int)) true (S n2) (m + (k2 : Int)) ∧ W.cell? ⟨w.heap.size, 0, none⟩ = some (.bool false) ∧ W.cell? ⟨w.heap.size, 1, none⟩ = some (.string (S n1)) ∧ W.cell? ⟨w.heap.size, 2, none⟩ = some (.int .i64 (m + (k1 : Int))) ∧ W.cell? ⟨w.heap.size + 1, 0, none⟩ = some (.bool true) ∧ W.cell? ⟨w.heap.size + 1, 1, none⟩ = some (.string (S n2)) ∧ W.cell? ⟨w.heap.size + 1, 2, none⟩ = some (.int .i64 (m + (k2 : Int)))) ((first | (go_split_ands; exact T4.all (by assumption)) | (go_split_ands; exact T4.all (T4.d (by assumption))) | (go_split_ands; exact T4.all (T4.step hX (by assumption))) | (go_split_ands; exact T4.all (T4.put (by assumption) _ _ _)))) (first | (go_at_call 28; (with_reducible refine (HA1.out _).mono ?_); rintro e wn ⟨rfl, hX⟩) | (go_at_call 28; (with_reducible refine (HA2.out _).mono ?_); rintro e wn ⟨rfl, hX⟩))
    all_goals
      rename_i hH
      have T2 := hH.1
      clear hH T
      go_wp2_with fail
      go_meet
      exact ⟨rfl, rfl, rfl, T2⟩
  case rest =>
    obtain ⟨rfl, rfl, rfl, T⟩ := hcut
    obtain ⟨a0, a1, a2⟩ := T.a.cells; obtain ⟨b0, b1, b2⟩ := T.b.cells
    go_wp2_with (go_at_call 54; (with_reducible refine (HC.out _).mono ?_); rintro e w1 ⟨rfl, rfl⟩)
    clear a0 a1 a2 b0 b1 b2
    go_region_held3 (fun (W : World) => T4 w W false (S n1) (m + (k1 : Int)) true (S n2) (m + (k2 : Int)) ∧ W.cell? ⟨w.heap.size, 0, none⟩ = some (.bool false) ∧ W.cell? ⟨w.heap.size, 1, none⟩ = some (.string (S n1)) ∧ W.cell? ⟨w.heap.size, 2, none⟩ = some (.int .i64 (m + (k1 : Int))) ∧ W.cell? ⟨w.heap.size + 1, 0, none⟩ = some (.bool true) ∧ W.cell? ⟨w.heap.size + 1, 1, none⟩ = some (.string (S n2)) ∧ W.cell? ⟨w.heap.size + 1, 2, none⟩ = some (.int .i64 (m + (k2 : Int)))) ((first | (go_split_ands; exact T4.all (by assumption)) | (go_split_ands; exact T4.all (T4.d (by assumption))) | (go_split_ands; exact T4.all (T4.step hX (by assumption))) | (go_split_ands; exact T4.all (T4.put (by assumption) _ _ _)))) (first | (go_at_call 30; (with_reducible refine (HU.out _).mono ?_); rintro e wn ⟨rfl, hX⟩) | (go_at_call 31; (with_reducible refine (HM.out _).mono ?_); rintro e wn ⟨rfl, hX⟩) | (go_split_ands; obtain ⟨g0, s0, z0, hD⟩ := T4.c (by assumption); obtain ⟨c0, c1, c2⟩ := hD.cells; have y0 := hD.fz 0; have y1 := hD.fz 1; have y2 := hD.fz 2; go_simp))
    rename_i hH
    have bl := hH.1.bel
    clear hH T
    go_wp2
    exact bodyPost_ret (v := .tuple #[.agg #[.bool ra, .string rb, .int .i64 rc], .int .i64 rd]) (by simp [results, Tryd.results32, go_sem, c0, c1, c2]) rfl ⟨rfl, bl⟩
set_option maxRecDepth 100000 in
set_option maxHeartbeats 8000000 in
theorem radd_more_false (n1 : Nat) (n2 : Nat) (m : Int) (k1 k2 : Nat) (w : World) (p1 : 0 < n1) (p2 : 0 < n2) (s1 : (S n1).size ≤ 120) (s2 : (S n2).size ≤ 120) (hm : -400 ≤ m ∧ m ≤ 400) (hk : k1 = 0 ∨ k2 = 0) (b1 : k1 ≤ 1000) (b2 : k2 ≤ 1000) (hl : n2 * 10 ^ k2 ≤ n1 * 10 ^ k1) : Calls Tryd.prog 32 #[.agg #[.bool false, .string (S n1), .int .i64 (m + (k1 : Int))], .agg #[.bool true, .string (S n2), .int .i64 (m + (k2 : Int))]] w fun e w' => e = .returned (.tuple #[.agg #[.bool (nG false (n1 * 10 ^ k1 - n2 * 10 ^ k2) (m)), .string (S (nN (n1 * 10 ^ k1 - n2 * 10 ^ k2) (m))), .int .i64 (nX (n1 * 10 ^ k1 - n2 * 10 ^ k2) (m))], .int .i64 (nE (n1 * 10 ^ k1 - n2 * 10 ^ k2) (m))]) ∧ Below w.heap.size w w' := by
  have e1 := tl_ne (S_pos p1)
  have e2 := tl_ne' (S_pos p1)
  have e3 := tl_ne (S_pos p2)
  have e4 := tl_ne' (S_pos p2)
  have hmin : min (m + (k1 : Int)) (m + (k2 : Int)) = m := by omega
  have HL := Lib.hid (fun w => lower_any false (S n1) (m + (k1 : Int)) true (S n2) (m + (k2 : Int)) w)
  rw [hmin] at HL
  have HA1 := Lib.hid (fun w => at_any false n1 m k1 w p1 s1 hm b1)
  have HA2 := Lib.hid (fun w => at_any true n2 m k2 w p2 s2 hm b2)
  have hA : (S (n1 * 10 ^ k1)).size ≤ 1120 := by have := len_pow p1 k1; rw [S_size] at *; omega
  have hB : (S (n2 * 10 ^ k2)).size ≤ 1120 := by have := len_pow p2 k2; rw [S_size] at *; omega
  have HT := Lib.hid (T3.new w false (S n1) (m + (k1 : Int)) true (S n2) (m + (k2 : Int)))
  clear hmin
  have HC := Lib.hid (fun w => rcmp_any (n1 * 10 ^ k1) (n2 * 10 ^ k2) w (by omega) (by omega))
  have hc0 : 0 ≤ cmpN (n1 * 10 ^ k1) (n2 * 10 ^ k2) := by unfold cmpN; split <;> (try split) <;> omega
  have HU := Lib.hid (fun w => less_any (n1 * 10 ^ k1) (n2 * 10 ^ k2) w (by omega) (by omega) (by omega))
  have hC := S_less hA (Nat.sub_le (n1 * 10 ^ k1) (n2 * 10 ^ k2))
  have HM := Lib.hid (fun w => norm_any false (S (n1 * 10 ^ k1 - n2 * 10 ^ k2)) (n1 * 10 ^ k1 - n2 * 10 ^ k2) m w (Num_S _) (by omega) (by omega))
  obtain ⟨ra, ha⟩ : ∃ a, nG false (n1 * 10 ^ k1 - n2 * 10 ^ k2) (m) = a := ⟨_, rfl⟩
  obtain ⟨rb, hb⟩ : ∃ b, S (nN (n1 * 10 ^ k1 - n2 * 10 ^ k2) (m)) = b := ⟨_, rfl⟩
  obtain ⟨rc, hc⟩ : ∃ c, nX (n1 * 10 ^ k1 - n2 * 10 ^ k2) (m) = c := ⟨_, rfl⟩
  obtain ⟨rd, hd⟩ : ∃ d, nE (n1 * 10 ^ k1 - n2 * 10 ^ k2) (m) = d := ⟨_, rfl⟩
  rw [ha, hb, hc, hd] at HM ⊢
  clear ha hb hc hd
  clear hA hB hC s1 s2 hl
  generalize hCe : S (n1 * 10 ^ k1 - n2 * 10 ^ k2) = C at *
  clear hCe
  generalize n1 * 10 ^ k1 = A0 at *
  generalize n2 * 10 ^ k2 = B0 at *
  generalize S A0 = A at *
  generalize S B0 = B at *
  have T := HT.out
  go_enter Tryd.func32, Tryd.ntmps32
  go_upto_region 6 with ((go_at_call 27; (with_reducible refine (HL.out _).mono ?_); rintro e w1 ⟨rfl, hX⟩; have T := T.step hX; clear hX; obtain ⟨a0, a1, a2⟩ := T.a.cells; obtain ⟨b0, b1, b2⟩ := T.b.cells; obtain ⟨c0, c1, c2⟩ := T.c.cells; have y0 := T.c.fz 0; have y1 := T.c.fz 1; have y2 := T.c.fz 2))
  go_cut [6, 7, 8] (fun t6 t7 t8 wx => t6 = .int .i64 m ∧ t7 = .string A ∧ t8 = .string B ∧ T4 w wx false (S n1) (m + (k1 : Int)) true (S n2) (m + (k2 : Int)))
  case first =>
    have T' := T.four
    clear T a0 a1 a2 b0 b1 b2 c0 c1 c2 y0 y1 y2
    have T := T'
    clear T'
    go_region_held3 (fun (W : World) => T4 w W false (S n1) (m + (k1 : Int)) true (S n2) (m + (k2 : Int)) ∧ W.cell? ⟨w.heap.size, 0, none⟩ = some (.bool false) ∧ W.cell? ⟨w.heap.size, 1, none⟩ = some (.string (S n1)) ∧ W.cell? ⟨w.heap.size, 2, none⟩ = some (.int .i64 (m + (k1 : Int))) ∧ W.cell? ⟨w.heap.size + 1, 0, none⟩ = some (.bool true) ∧ W.cell? ⟨w.heap.size + 1, 1, none⟩ = some (.string (S n2)) ∧ W.cell? ⟨w.heap.size + 1, 2, none⟩ = some (.int .i64 (m + (k2 : Int)))) ((first | (go_split_ands; exact T4.all (by assumption)) | (go_split_ands; exact T4.all (T4.d (by assumption))) | (go_split_ands; exact T4.all (T4.step hX (by assumption))) | (go_split_ands; exact T4.all (T4.put (by assumption) _ _ _)))) (first | (go_at_call 28; (with_reducible refine (HA1.out _).mono ?_); rintro e wn ⟨rfl, hX⟩) | (go_at_call 28; (with_reducible refine (HA2.out _).mono ?_); rintro e wn ⟨rfl, hX⟩))
    all_goals
      rename_i hH
      have T2 := hH.1
      clear hH T
      go_wp2_with fail
      go_meet
      exact ⟨rfl, rfl, rfl, T2⟩
  case rest =>
    obtain ⟨rfl, rfl, rfl, T⟩ := hcut
    obtain ⟨a0, a1, a2⟩ := T.a.cells; obtain ⟨b0, b1, b2⟩ := T.b.cells
    go_wp2_with (go_at_call 54; (with_reducible refine (HC.out _).mono ?_); rintro e w1 ⟨rfl, rfl⟩)
    clear a0 a1 a2 b0 b1 b2
    go_region_held3 (fun (W : World) => T4 w W false (S n1) (m + (k1 : Int)) true (S n2) (m + (k2 : Int)) ∧ W.cell? ⟨w.heap.size, 0, none⟩ = some (.bool false) ∧ W.cell? ⟨w.heap.size, 1, none⟩ = some (.string (S n1)) ∧ W.cell? ⟨w.heap.size, 2, none⟩ = some (.int .i64 (m + (k1 : Int))) ∧ W.cell? ⟨w.heap.size + 1, 0, none⟩ = some (.bool true) ∧ W.cell? ⟨w.heap.size + 1, 1, none⟩ = some (.string (S n2)) ∧ W.cell? ⟨w.heap.size + 1, 2, none⟩ = some (.int .i64 (m + (k2 : Int)))) ((first | (go_split_ands; exact T4.all (by assumption)) | (go_split_ands; exact T4.all (T4.d (by assumption))) | (go_split_ands; exact T4.all (T4.step hX (by assumption))) | (go_split_ands; exact T4.all (T4.put (by assumption) _ _ _)))) (first | (go_at_call 30; (with_reducible refine (HU.out _).mono ?_); rintro e wn ⟨rfl, hX⟩) | (go_at_call 31; (with_reducible refine (HM.out _).mono ?_); rintro e wn ⟨rfl, hX⟩) | (go_split_ands; obtain ⟨g0, s0, z0, hD⟩ := T4.c (by assumption); obtain ⟨c0, c1, c2⟩ := hD.cells; have y0 := hD.fz 0; have y1 := hD.fz 1; have y2 := hD.fz 2; go_simp))
    rename_i hH
    have bl := hH.1.bel
    clear hH T
    go_wp2
    exact bodyPost_ret (v := .tuple #[.agg #[.bool ra, .string rb, .int .i64 rc], .int .i64 rd]) (by simp [results, Tryd.results32, go_sem, c0, c1, c2]) rfl ⟨rfl, bl⟩
set_option maxRecDepth 100000 in
set_option maxHeartbeats 8000000 in
theorem radd_same_true (n1 : Nat) (n2 : Nat) (m : Int) (k1 k2 : Nat) (w : World) (p1 : 0 < n1) (p2 : 0 < n2) (s1 : (S n1).size ≤ 120) (s2 : (S n2).size ≤ 120) (hm : -400 ≤ m ∧ m ≤ 400) (hk : k1 = 0 ∨ k2 = 0) (b1 : k1 ≤ 1000) (b2 : k2 ≤ 1000) : Calls Tryd.prog 32 #[.agg #[.bool true, .string (S n1), .int .i64 (m + (k1 : Int))], .agg #[.bool true, .string (S n2), .int .i64 (m + (k2 : Int))]] w fun e w' => e = .returned (.tuple #[.agg #[.bool (nG true (n1 * 10 ^ k1 + n2 * 10 ^ k2) (m)), .string (S (nN (n1 * 10 ^ k1 + n2 * 10 ^ k2) (m))), .int .i64 (nX (n1 * 10 ^ k1 + n2 * 10 ^ k2) (m))], .int .i64 (nE (n1 * 10 ^ k1 + n2 * 10 ^ k2) (m))]) ∧ Below w.heap.size w w' := by
  have e1 := tl_ne (S_pos p1)
  have e2 := tl_ne' (S_pos p1)
  have e3 := tl_ne (S_pos p2)
  have e4 := tl_ne' (S_pos p2)
  have hmin : min (m + (k1 : Int)) (m + (k2 : Int)) = m := by omega
  have HL := Lib.hid (fun w => lower_any true (S n1) (m + (k1 : Int)) true (S n2) (m + (k2 : Int)) w)
  rw [hmin] at HL
  have HA1 := Lib.hid (fun w => at_any true n1 m k1 w p1 s1 hm b1)
  have HA2 := Lib.hid (fun w => at_any true n2 m k2 w p2 s2 hm b2)
  have hA : (S (n1 * 10 ^ k1)).size ≤ 1120 := by have := len_pow p1 k1; rw [S_size] at *; omega
  have hB : (S (n2 * 10 ^ k2)).size ≤ 1120 := by have := len_pow p2 k2; rw [S_size] at *; omega
  have HT := Lib.hid (T3.new w true (S n1) (m + (k1 : Int)) true (S n2) (m + (k2 : Int)))
  clear hmin
  have HU := Lib.hid (fun w => sum_any (n1 * 10 ^ k1) (n2 * 10 ^ k2) w (by omega) (by omega))
  have hC := S_add hA hB
  have HM := Lib.hid (fun w => norm_any true (S (n1 * 10 ^ k1 + n2 * 10 ^ k2)) (n1 * 10 ^ k1 + n2 * 10 ^ k2) m w (Num_S _) (by omega) (by omega))
  obtain ⟨ra, ha⟩ : ∃ a, nG true (n1 * 10 ^ k1 + n2 * 10 ^ k2) (m) = a := ⟨_, rfl⟩
  obtain ⟨rb, hb⟩ : ∃ b, S (nN (n1 * 10 ^ k1 + n2 * 10 ^ k2) (m)) = b := ⟨_, rfl⟩
  obtain ⟨rc, hc⟩ : ∃ c, nX (n1 * 10 ^ k1 + n2 * 10 ^ k2) (m) = c := ⟨_, rfl⟩
  obtain ⟨rd, hd⟩ : ∃ d, nE (n1 * 10 ^ k1 + n2 * 10 ^ k2) (m) = d := ⟨_, rfl⟩
  rw [ha, hb, hc, hd] at HM ⊢
  clear ha hb hc hd
  clear hA hB hC s1 s2
  generalize hCe : S (n1 * 10 ^ k1 + n2 * 10 ^ k2) = C at *
  clear hCe
  generalize n1 * 10 ^ k1 = A0 at *
  generalize n2 * 10 ^ k2 = B0 at *
  generalize S A0 = A at *
  generalize S B0 = B at *
  have T := HT.out
  go_enter Tryd.func32, Tryd.ntmps32
  go_upto_region 6 with ((go_at_call 27; (with_reducible refine (HL.out _).mono ?_); rintro e w1 ⟨rfl, hX⟩; have T := T.step hX; clear hX; obtain ⟨a0, a1, a2⟩ := T.a.cells; obtain ⟨b0, b1, b2⟩ := T.b.cells; obtain ⟨c0, c1, c2⟩ := T.c.cells; have y0 := T.c.fz 0; have y1 := T.c.fz 1; have y2 := T.c.fz 2))
  go_cut [6, 7, 8] (fun t6 t7 t8 wx => t6 = .int .i64 m ∧ t7 = .string A ∧ t8 = .string B ∧ T4 w wx true (S n1) (m + (k1 : Int)) true (S n2) (m + (k2 : Int)))
  case first =>
    have T' := T.four
    clear T a0 a1 a2 b0 b1 b2 c0 c1 c2 y0 y1 y2
    have T := T'
    clear T'
    go_region_held3 (fun (W : World) => T4 w W true (S n1) (m + (k1 : Int)) true (S n2) (m + (k2 : Int)) ∧ W.cell? ⟨w.heap.size, 0, none⟩ = some (.bool true) ∧ W.cell? ⟨w.heap.size, 1, none⟩ = some (.string (S n1)) ∧ W.cell? ⟨w.heap.size, 2, none⟩ = some (.int .i64 (m + (k1 : Int))) ∧ W.cell? ⟨w.heap.size + 1, 0, none⟩ = some (.bool true) ∧ W.cell? ⟨w.heap.size + 1, 1, none⟩ = some (.string (S n2)) ∧ W.cell? ⟨w.heap.size + 1, 2, none⟩ = some (.int .i64 (m + (k2 : Int)))) ((first | (go_split_ands; exact T4.all (by assumption)) | (go_split_ands; exact T4.all (T4.d (by assumption))) | (go_split_ands; exact T4.all (T4.step hX (by assumption))) | (go_split_ands; exact T4.all (T4.put (by assumption) _ _ _)))) (first | (go_at_call 28; (with_reducible refine (HA1.out _).mono ?_); rintro e wn ⟨rfl, hX⟩) | (go_at_call 28; (with_reducible refine (HA2.out _).mono ?_); rintro e wn ⟨rfl, hX⟩))
    all_goals
      rename_i hH
      have T2 := hH.1
      clear hH T
      go_wp2_with fail
      go_meet
      exact ⟨rfl, rfl, rfl, T2⟩
  case rest =>
    obtain ⟨rfl, rfl, rfl, T⟩ := hcut
    obtain ⟨a0, a1, a2⟩ := T.a.cells; obtain ⟨b0, b1, b2⟩ := T.b.cells
    go_wp2_with (fail)
    clear a0 a1 a2 b0 b1 b2
    go_region_held3 (fun (W : World) => T4 w W true (S n1) (m + (k1 : Int)) true (S n2) (m + (k2 : Int)) ∧ W.cell? ⟨w.heap.size, 0, none⟩ = some (.bool true) ∧ W.cell? ⟨w.heap.size, 1, none⟩ = some (.string (S n1)) ∧ W.cell? ⟨w.heap.size, 2, none⟩ = some (.int .i64 (m + (k1 : Int))) ∧ W.cell? ⟨w.heap.size + 1, 0, none⟩ = some (.bool true) ∧ W.cell? ⟨w.heap.size + 1, 1, none⟩ = some (.string (S n2)) ∧ W.cell? ⟨w.heap.size + 1, 2, none⟩ = some (.int .i64 (m + (k2 : Int)))) ((first | (go_split_ands; exact T4.all (by assumption)) | (go_split_ands; exact T4.all (T4.d (by assumption))) | (go_split_ands; exact T4.all (T4.step hX (by assumption))) | (go_split_ands; exact T4.all (T4.put (by assumption) _ _ _)))) (first | (go_at_call 40; (with_reducible refine (HU.out _).mono ?_); rintro e wn ⟨rfl, hX⟩) | (go_at_call 31; (with_reducible refine (HM.out _).mono ?_); rintro e wn ⟨rfl, hX⟩) | (go_split_ands; obtain ⟨g0, s0, z0, hD⟩ := T4.c (by assumption); obtain ⟨c0, c1, c2⟩ := hD.cells; have y0 := hD.fz 0; have y1 := hD.fz 1; have y2 := hD.fz 2; go_simp))
    rename_i hH
    have bl := hH.1.bel
    clear hH T
    go_wp2
    exact bodyPost_ret (v := .tuple #[.agg #[.bool ra, .string rb, .int .i64 rc], .int .i64 rd]) (by simp [results, Tryd.results32, go_sem, c0, c1, c2]) rfl ⟨rfl, bl⟩
set_option maxRecDepth 100000 in
set_option maxHeartbeats 8000000 in
theorem radd_less_true (n1 : Nat) (n2 : Nat) (m : Int) (k1 k2 : Nat) (w : World) (p1 : 0 < n1) (p2 : 0 < n2) (s1 : (S n1).size ≤ 120) (s2 : (S n2).size ≤ 120) (hm : -400 ≤ m ∧ m ≤ 400) (hk : k1 = 0 ∨ k2 = 0) (b1 : k1 ≤ 1000) (b2 : k2 ≤ 1000) (hl : n1 * 10 ^ k1 < n2 * 10 ^ k2) : Calls Tryd.prog 32 #[.agg #[.bool true, .string (S n1), .int .i64 (m + (k1 : Int))], .agg #[.bool false, .string (S n2), .int .i64 (m + (k2 : Int))]] w fun e w' => e = .returned (.tuple #[.agg #[.bool (nG false (n2 * 10 ^ k2 - n1 * 10 ^ k1) (m)), .string (S (nN (n2 * 10 ^ k2 - n1 * 10 ^ k1) (m))), .int .i64 (nX (n2 * 10 ^ k2 - n1 * 10 ^ k1) (m))], .int .i64 (nE (n2 * 10 ^ k2 - n1 * 10 ^ k1) (m))]) ∧ Below w.heap.size w w' := by
  have e1 := tl_ne (S_pos p1)
  have e2 := tl_ne' (S_pos p1)
  have e3 := tl_ne (S_pos p2)
  have e4 := tl_ne' (S_pos p2)
  have hmin : min (m + (k1 : Int)) (m + (k2 : Int)) = m := by omega
  have HL := Lib.hid (fun w => lower_any true (S n1) (m + (k1 : Int)) false (S n2) (m + (k2 : Int)) w)
  rw [hmin] at HL
  have HA1 := Lib.hid (fun w => at_any true n1 m k1 w p1 s1 hm b1)
  have HA2 := Lib.hid (fun w => at_any false n2 m k2 w p2 s2 hm b2)
  have hA : (S (n1 * 10 ^ k1)).size ≤ 1120 := by have := len_pow p1 k1; rw [S_size] at *; omega
  have hB : (S (n2 * 10 ^ k2)).size ≤ 1120 := by have := len_pow p2 k2; rw [S_size] at *; omega
  have HT := Lib.hid (T3.new w true (S n1) (m + (k1 : Int)) false (S n2) (m + (k2 : Int)))
  clear hmin
  have HC := Lib.hid (fun w => rcmp_any (n1 * 10 ^ k1) (n2 * 10 ^ k2) w (by omega) (by omega))
  rw [cmpN_lt hl] at HC
  have HU := Lib.hid (fun w => less_any (n2 * 10 ^ k2) (n1 * 10 ^ k1) w (by omega) (by omega) (by omega))
  have hC := S_less hB (Nat.sub_le (n2 * 10 ^ k2) (n1 * 10 ^ k1))
  have HM := Lib.hid (fun w => norm_any false (S (n2 * 10 ^ k2 - n1 * 10 ^ k1)) (n2 * 10 ^ k2 - n1 * 10 ^ k1) m w (Num_S _) (by omega) (by omega))
  obtain ⟨ra, ha⟩ : ∃ a, nG false (n2 * 10 ^ k2 - n1 * 10 ^ k1) (m) = a := ⟨_, rfl⟩
  obtain ⟨rb, hb⟩ : ∃ b, S (nN (n2 * 10 ^ k2 - n1 * 10 ^ k1) (m)) = b := ⟨_, rfl⟩
  obtain ⟨rc, hc⟩ : ∃ c, nX (n2 * 10 ^ k2 - n1 * 10 ^ k1) (m) = c := ⟨_, rfl⟩
  obtain ⟨rd, hd⟩ : ∃ d, nE (n2 * 10 ^ k2 - n1 * 10 ^ k1) (m) = d := ⟨_, rfl⟩
  rw [ha, hb, hc, hd] at HM ⊢
  clear ha hb hc hd
  clear hA hB hC s1 s2 hl
  generalize hCe : S (n2 * 10 ^ k2 - n1 * 10 ^ k1) = C at *
  clear hCe
  generalize n1 * 10 ^ k1 = A0 at *
  generalize n2 * 10 ^ k2 = B0 at *
  generalize S A0 = A at *
  generalize S B0 = B at *
  have T := HT.out
  go_enter Tryd.func32, Tryd.ntmps32
  go_upto_region 6 with ((go_at_call 27; (with_reducible refine (HL.out _).mono ?_); rintro e w1 ⟨rfl, hX⟩; have T := T.step hX; clear hX; obtain ⟨a0, a1, a2⟩ := T.a.cells; obtain ⟨b0, b1, b2⟩ := T.b.cells; obtain ⟨c0, c1, c2⟩ := T.c.cells; have y0 := T.c.fz 0; have y1 := T.c.fz 1; have y2 := T.c.fz 2))
  go_cut [6, 7, 8] (fun t6 t7 t8 wx => t6 = .int .i64 m ∧ t7 = .string A ∧ t8 = .string B ∧ T4 w wx true (S n1) (m + (k1 : Int)) false (S n2) (m + (k2 : Int)))
  case first =>
    have T' := T.four
    clear T a0 a1 a2 b0 b1 b2 c0 c1 c2 y0 y1 y2
    have T := T'
    clear T'
    go_region_held3 (fun (W : World) => T4 w W true (S n1) (m + (k1 : Int)) false (S n2) (m + (k2 : Int)) ∧ W.cell? ⟨w.heap.size, 0, none⟩ = some (.bool true) ∧ W.cell? ⟨w.heap.size, 1, none⟩ = some (.string (S n1)) ∧ W.cell? ⟨w.heap.size, 2, none⟩ = some (.int .i64 (m + (k1 : Int))) ∧ W.cell? ⟨w.heap.size + 1, 0, none⟩ = some (.bool false) ∧ W.cell? ⟨w.heap.size + 1, 1, none⟩ = some (.string (S n2)) ∧ W.cell? ⟨w.heap.size + 1, 2, none⟩ = some (.int .i64 (m + (k2 : Int)))) ((first | (go_split_ands; exact T4.all (by assumption)) | (go_split_ands; exact T4.all (T4.d (by assumption))) | (go_split_ands; exact T4.all (T4.step hX (by assumption))) | (go_split_ands; exact T4.all (T4.put (by assumption) _ _ _)))) (first | (go_at_call 28; (with_reducible refine (HA1.out _).mono ?_); rintro e wn ⟨rfl, hX⟩) | (go_at_call 28; (with_reducible refine (HA2.out _).mono ?_); rintro e wn ⟨rfl, hX⟩))
    all_goals
      rename_i hH
      have T2 := hH.1
      clear hH T
      go_wp2_with fail
      go_meet
      exact ⟨rfl, rfl, rfl, T2⟩
  case rest =>
    obtain ⟨rfl, rfl, rfl, T⟩ := hcut
    obtain ⟨a0, a1, a2⟩ := T.a.cells; obtain ⟨b0, b1, b2⟩ := T.b.cells
    go_wp2_with (go_at_call 54; (with_reducible refine (HC.out _).mono ?_); rintro e w1 ⟨rfl, rfl⟩)
    clear a0 a1 a2 b0 b1 b2
    go_region_held3 (fun (W : World) => T4 w W true (S n1) (m + (k1 : Int)) false (S n2) (m + (k2 : Int)) ∧ W.cell? ⟨w.heap.size, 0, none⟩ = some (.bool true) ∧ W.cell? ⟨w.heap.size, 1, none⟩ = some (.string (S n1)) ∧ W.cell? ⟨w.heap.size, 2, none⟩ = some (.int .i64 (m + (k1 : Int))) ∧ W.cell? ⟨w.heap.size + 1, 0, none⟩ = some (.bool false) ∧ W.cell? ⟨w.heap.size + 1, 1, none⟩ = some (.string (S n2)) ∧ W.cell? ⟨w.heap.size + 1, 2, none⟩ = some (.int .i64 (m + (k2 : Int)))) ((first | (go_split_ands; exact T4.all (by assumption)) | (go_split_ands; exact T4.all (T4.d (by assumption))) | (go_split_ands; exact T4.all (T4.step hX (by assumption))) | (go_split_ands; exact T4.all (T4.put (by assumption) _ _ _)))) (first | (go_at_call 30; (with_reducible refine (HU.out _).mono ?_); rintro e wn ⟨rfl, hX⟩) | (go_at_call 31; (with_reducible refine (HM.out _).mono ?_); rintro e wn ⟨rfl, hX⟩) | (go_split_ands; obtain ⟨g0, s0, z0, hD⟩ := T4.c (by assumption); obtain ⟨c0, c1, c2⟩ := hD.cells; have y0 := hD.fz 0; have y1 := hD.fz 1; have y2 := hD.fz 2; go_simp))
    rename_i hH
    have bl := hH.1.bel
    clear hH T
    go_wp2
    exact bodyPost_ret (v := .tuple #[.agg #[.bool ra, .string rb, .int .i64 rc], .int .i64 rd]) (by simp [results, Tryd.results32, go_sem, c0, c1, c2]) rfl ⟨rfl, bl⟩
set_option maxRecDepth 100000 in
set_option maxHeartbeats 8000000 in
theorem radd_more_true (n1 : Nat) (n2 : Nat) (m : Int) (k1 k2 : Nat) (w : World) (p1 : 0 < n1) (p2 : 0 < n2) (s1 : (S n1).size ≤ 120) (s2 : (S n2).size ≤ 120) (hm : -400 ≤ m ∧ m ≤ 400) (hk : k1 = 0 ∨ k2 = 0) (b1 : k1 ≤ 1000) (b2 : k2 ≤ 1000) (hl : n2 * 10 ^ k2 ≤ n1 * 10 ^ k1) : Calls Tryd.prog 32 #[.agg #[.bool true, .string (S n1), .int .i64 (m + (k1 : Int))], .agg #[.bool false, .string (S n2), .int .i64 (m + (k2 : Int))]] w fun e w' => e = .returned (.tuple #[.agg #[.bool (nG true (n1 * 10 ^ k1 - n2 * 10 ^ k2) (m)), .string (S (nN (n1 * 10 ^ k1 - n2 * 10 ^ k2) (m))), .int .i64 (nX (n1 * 10 ^ k1 - n2 * 10 ^ k2) (m))], .int .i64 (nE (n1 * 10 ^ k1 - n2 * 10 ^ k2) (m))]) ∧ Below w.heap.size w w' := by
  have e1 := tl_ne (S_pos p1)
  have e2 := tl_ne' (S_pos p1)
  have e3 := tl_ne (S_pos p2)
  have e4 := tl_ne' (S_pos p2)
  have hmin : min (m + (k1 : Int)) (m + (k2 : Int)) = m := by omega
  have HL := Lib.hid (fun w => lower_any true (S n1) (m + (k1 : Int)) false (S n2) (m + (k2 : Int)) w)
  rw [hmin] at HL
  have HA1 := Lib.hid (fun w => at_any true n1 m k1 w p1 s1 hm b1)
  have HA2 := Lib.hid (fun w => at_any false n2 m k2 w p2 s2 hm b2)
  have hA : (S (n1 * 10 ^ k1)).size ≤ 1120 := by have := len_pow p1 k1; rw [S_size] at *; omega
  have hB : (S (n2 * 10 ^ k2)).size ≤ 1120 := by have := len_pow p2 k2; rw [S_size] at *; omega
  have HT := Lib.hid (T3.new w true (S n1) (m + (k1 : Int)) false (S n2) (m + (k2 : Int)))
  clear hmin
  have HC := Lib.hid (fun w => rcmp_any (n1 * 10 ^ k1) (n2 * 10 ^ k2) w (by omega) (by omega))
  have hc0 : 0 ≤ cmpN (n1 * 10 ^ k1) (n2 * 10 ^ k2) := by unfold cmpN; split <;> (try split) <;> omega
  have HU := Lib.hid (fun w => less_any (n1 * 10 ^ k1) (n2 * 10 ^ k2) w (by omega) (by omega) (by omega))
  have hC := S_less hA (Nat.sub_le (n1 * 10 ^ k1) (n2 * 10 ^ k2))
  have HM := Lib.hid (fun w => norm_any true (S (n1 * 10 ^ k1 - n2 * 10 ^ k2)) (n1 * 10 ^ k1 - n2 * 10 ^ k2) m w (Num_S _) (by omega) (by omega))
  obtain ⟨ra, ha⟩ : ∃ a, nG true (n1 * 10 ^ k1 - n2 * 10 ^ k2) (m) = a := ⟨_, rfl⟩
  obtain ⟨rb, hb⟩ : ∃ b, S (nN (n1 * 10 ^ k1 - n2 * 10 ^ k2) (m)) = b := ⟨_, rfl⟩
  obtain ⟨rc, hc⟩ : ∃ c, nX (n1 * 10 ^ k1 - n2 * 10 ^ k2) (m) = c := ⟨_, rfl⟩
  obtain ⟨rd, hd⟩ : ∃ d, nE (n1 * 10 ^ k1 - n2 * 10 ^ k2) (m) = d := ⟨_, rfl⟩
  rw [ha, hb, hc, hd] at HM ⊢
  clear ha hb hc hd
  clear hA hB hC s1 s2 hl
  generalize hCe : S (n1 * 10 ^ k1 - n2 * 10 ^ k2) = C at *
  clear hCe
  generalize n1 * 10 ^ k1 = A0 at *
  generalize n2 * 10 ^ k2 = B0 at *
  generalize S A0 = A at *
  generalize S B0 = B at *
  have T := HT.out
  go_enter Tryd.func32, Tryd.ntmps32
  go_upto_region 6 with ((go_at_call 27; (with_reducible refine (HL.out _).mono ?_); rintro e w1 ⟨rfl, hX⟩; have T := T.step hX; clear hX; obtain ⟨a0, a1, a2⟩ := T.a.cells; obtain ⟨b0, b1, b2⟩ := T.b.cells; obtain ⟨c0, c1, c2⟩ := T.c.cells; have y0 := T.c.fz 0; have y1 := T.c.fz 1; have y2 := T.c.fz 2))
  go_cut [6, 7, 8] (fun t6 t7 t8 wx => t6 = .int .i64 m ∧ t7 = .string A ∧ t8 = .string B ∧ T4 w wx true (S n1) (m + (k1 : Int)) false (S n2) (m + (k2 : Int)))
  case first =>
    have T' := T.four
    clear T a0 a1 a2 b0 b1 b2 c0 c1 c2 y0 y1 y2
    have T := T'
    clear T'
    go_region_held3 (fun (W : World) => T4 w W true (S n1) (m + (k1 : Int)) false (S n2) (m + (k2 : Int)) ∧ W.cell? ⟨w.heap.size, 0, none⟩ = some (.bool true) ∧ W.cell? ⟨w.heap.size, 1, none⟩ = some (.string (S n1)) ∧ W.cell? ⟨w.heap.size, 2, none⟩ = some (.int .i64 (m + (k1 : Int))) ∧ W.cell? ⟨w.heap.size + 1, 0, none⟩ = some (.bool false) ∧ W.cell? ⟨w.heap.size + 1, 1, none⟩ = some (.string (S n2)) ∧ W.cell? ⟨w.heap.size + 1, 2, none⟩ = some (.int .i64 (m + (k2 : Int)))) ((first | (go_split_ands; exact T4.all (by assumption)) | (go_split_ands; exact T4.all (T4.d (by assumption))) | (go_split_ands; exact T4.all (T4.step hX (by assumption))) | (go_split_ands; exact T4.all (T4.put (by assumption) _ _ _)))) (first | (go_at_call 28; (with_reducible refine (HA1.out _).mono ?_); rintro e wn ⟨rfl, hX⟩) | (go_at_call 28; (with_reducible refine (HA2.out _).mono ?_); rintro e wn ⟨rfl, hX⟩))
    all_goals
      rename_i hH
      have T2 := hH.1
      clear hH T
      go_wp2_with fail
      go_meet
      exact ⟨rfl, rfl, rfl, T2⟩
  case rest =>
    obtain ⟨rfl, rfl, rfl, T⟩ := hcut
    obtain ⟨a0, a1, a2⟩ := T.a.cells; obtain ⟨b0, b1, b2⟩ := T.b.cells
    go_wp2_with (go_at_call 54; (with_reducible refine (HC.out _).mono ?_); rintro e w1 ⟨rfl, rfl⟩)
    clear a0 a1 a2 b0 b1 b2
    go_region_held3 (fun (W : World) => T4 w W true (S n1) (m + (k1 : Int)) false (S n2) (m + (k2 : Int)) ∧ W.cell? ⟨w.heap.size, 0, none⟩ = some (.bool true) ∧ W.cell? ⟨w.heap.size, 1, none⟩ = some (.string (S n1)) ∧ W.cell? ⟨w.heap.size, 2, none⟩ = some (.int .i64 (m + (k1 : Int))) ∧ W.cell? ⟨w.heap.size + 1, 0, none⟩ = some (.bool false) ∧ W.cell? ⟨w.heap.size + 1, 1, none⟩ = some (.string (S n2)) ∧ W.cell? ⟨w.heap.size + 1, 2, none⟩ = some (.int .i64 (m + (k2 : Int)))) ((first | (go_split_ands; exact T4.all (by assumption)) | (go_split_ands; exact T4.all (T4.d (by assumption))) | (go_split_ands; exact T4.all (T4.step hX (by assumption))) | (go_split_ands; exact T4.all (T4.put (by assumption) _ _ _)))) (first | (go_at_call 30; (with_reducible refine (HU.out _).mono ?_); rintro e wn ⟨rfl, hX⟩) | (go_at_call 31; (with_reducible refine (HM.out _).mono ?_); rintro e wn ⟨rfl, hX⟩) | (go_split_ands; obtain ⟨g0, s0, z0, hD⟩ := T4.c (by assumption); obtain ⟨c0, c1, c2⟩ := hD.cells; have y0 := hD.fz 0; have y1 := hD.fz 1; have y2 := hD.fz 2; go_simp))
    rename_i hH
    have bl := hH.1.bel
    clear hH T
    go_wp2
    exact bodyPost_ret (v := .tuple #[.agg #[.bool ra, .string rb, .int .i64 rc], .int .i64 rd]) (by simp [results, Tryd.results32, go_sem, c0, c1, c2]) rfl ⟨rfl, bl⟩
theorem radd_core (g1 : Bool) (n1 : Nat) (g2 : Bool) (n2 : Nat) (m : Int) (k1 k2 : Nat) (w : World) (h1 : okD g1 n1 (m + k1)) (h2 : okD g2 n2 (m + k2)) (hk : k1 = 0 ∨ k2 = 0) (b1 : k1 ≤ 1000) (b2 : k2 ≤ 1000) :
    Calls Tryd.prog 32 #[.agg #[.bool g1, .string (S n1), .int .i64 (m + (k1 : Int))], .agg #[.bool g2, .string (S n2), .int .i64 (m + (k2 : Int))]] w fun e w' => e = retR (addR g1 n1 (m + k1) g2 n2 (m + k2)) ∧ Below w.heap.size w w' := by
  obtain ⟨q1, a1, a2⟩ := ok_size h1
  obtain ⟨q2, a3, a4⟩ := ok_size h2
  rcases Nat.eq_zero_or_pos n1 with e1 | p1
  · have hR : addR g1 n1 (m + k1) g2 n2 (m + k2) = (g2, n2, m + k2, 0) := by unfold addR; rw [if_pos e1]
    rw [hR]
    exact radd_z1 g1 n1 _ g2 n2 _ w e1
  rcases Nat.eq_zero_or_pos n2 with e2 | p2
  · have hR : addR g1 n1 (m + k1) g2 n2 (m + k2) = (g1, n1, m + k1, 0) := by unfold addR; rw [if_neg (by omega), if_pos e2]
    rw [hR]
    exact radd_z2 g1 n1 _ g2 n2 _ w e2 p1
  rw [addR_pos p1 p2 hk]
  have hm : -400 ≤ m ∧ m ≤ 400 := by omega
  by_cases hg : g1 = g2
  · subst hg
    have hs : sumR g1 (n1 * 10 ^ k1) g1 (n2 * 10 ^ k2) m = nrm g1 (n1 * 10 ^ k1 + n2 * 10 ^ k2) m := by unfold sumR; rw [if_pos rfl]
    rw [hs]
    cases g1
    · exact (radd_same_false n1 n2 m k1 k2 w p1 p2 q1 q2 hm hk b1 b2).mono fun e w' ⟨he, hb⟩ => ⟨he.trans (nrm_R rfl), hb⟩
    · exact (radd_same_true n1 n2 m k1 k2 w p1 p2 q1 q2 hm hk b1 b2).mono fun e w' ⟨he, hb⟩ => ⟨he.trans (nrm_R rfl), hb⟩
  · by_cases hl : n1 * 10 ^ k1 < n2 * 10 ^ k2
    · have hs : sumR g1 (n1 * 10 ^ k1) g2 (n2 * 10 ^ k2) m = nrm g2 (n2 * 10 ^ k2 - n1 * 10 ^ k1) m := by unfold sumR; rw [if_neg hg, if_pos hl]
      rw [hs]
      cases g1 <;> cases g2
      · exact absurd rfl hg
      · exact (radd_less_false n1 n2 m k1 k2 w p1 p2 q1 q2 hm hk b1 b2 hl).mono fun e w' ⟨he, hb⟩ => ⟨he.trans (nrm_R rfl), hb⟩
      · exact (radd_less_true n1 n2 m k1 k2 w p1 p2 q1 q2 hm hk b1 b2 hl).mono fun e w' ⟨he, hb⟩ => ⟨he.trans (nrm_R rfl), hb⟩
      · exact absurd rfl hg
    · have hs : sumR g1 (n1 * 10 ^ k1) g2 (n2 * 10 ^ k2) m = nrm g1 (n1 * 10 ^ k1 - n2 * 10 ^ k2) m := by unfold sumR; rw [if_neg hg, if_neg hl]
      rw [hs]
      cases g1 <;> cases g2
      · exact absurd rfl hg
      · exact (radd_more_false n1 n2 m k1 k2 w p1 p2 q1 q2 hm hk b1 b2 (by omega)).mono fun e w' ⟨he, hb⟩ => ⟨he.trans (nrm_R rfl), hb⟩
      · exact (radd_more_true n1 n2 m k1 k2 w p1 p2 q1 q2 hm hk b1 b2 (by omega)).mono fun e w' ⟨he, hb⟩ => ⟨he.trans (nrm_R rfl), hb⟩
      · exact absurd rfl hg
theorem rdadd_any (g1 : Bool) (n1 : Nat) (x1 : Int) (g2 : Bool) (n2 : Nat) (x2 : Int) (w : World) (h1 : okD g1 n1 x1) (h2 : okD g2 n2 x2) :
    Calls Tryd.prog 32 #[.agg #[.bool g1, .string (S n1), .int .i64 x1], .agg #[.bool g2, .string (S n2), .int .i64 x2]] w fun e w' => e = retR (addR g1 n1 x1 g2 n2 x2) ∧ Below w.heap.size w w' := by
  obtain ⟨_, a1, a2⟩ := ok_size h1
  obtain ⟨_, a3, a4⟩ := ok_size h2
  obtain ⟨m, k1, k2, rfl, rfl, hk, b1, b2⟩ : ∃ (m : Int) (k1 k2 : Nat), x1 = m + k1 ∧ x2 = m + k2 ∧ (k1 = 0 ∨ k2 = 0) ∧ k1 ≤ 1000 ∧ k2 ≤ 1000 := by
    by_cases h : x1 ≤ x2
    · exact ⟨x1, 0, (x2 - x1).toNat, by omega, by omega, .inl rfl, by omega, by omega⟩
    · exact ⟨x2, (x1 - x2).toNat, 0, by omega, by omega, .inr rfl, by omega, by omega⟩
  exact radd_core g1 n1 g2 n2 m k1 k2 w h1 h2 hk b1 b2
end Go.Proofs.YtaikmelefllgpaaDoor.Dec
