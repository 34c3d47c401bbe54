/-
  Contracts of the reference of decimal: exact quotients.
-/
import Derived.Test.YtelehjdhjjedhabDoorDecI
namespace Go.Proofs.YtelehjdhjjedhabDoor.Dec
open Go.RowKit
set_option linter.unusedVariables false
set_option linter.unusedSimpArgs false
open Go.Proofs.YtelehjdhjjedhabDoor.Dig

theorem rq_any (n1 n2 k : Nat) (w : World) (hs1 : (S n1).size ≤ 120) (hs2 : (S n2).size ≤ 120) (hk : k ≤ 400) (hn : 0 < n2) : Calls Tryd.prog 36 #[.string (S n1 ++ noughts k), .string (S n2)] w fun e w' => e = .returned (.tuple #[.string (S (n1 * 10 ^ k / n2)), .string (S (n1 * 10 ^ k % n2)), .int .i64 0]) ∧ Below w.heap.size w w' := by
  rcases Nat.eq_zero_or_pos n1 with h | h
  · subst h
    rw [S_noughts0, Nat.zero_mul, Nat.zero_div, Nat.zero_mod]
    exact rquo_noughts k n2 w (by omega) (by omega) hn
  · rw [S_noughts k h]
    have := S_pow_size (k := k) hs1
    exact rquo_any (n1 * 10 ^ k) n2 w (by omega) (by omega) hn
set_option maxRecDepth 100000 in
set_option maxHeartbeats 8000000 in
theorem rddiv_zero (g1 : Bool) (n1 : Nat) (x1 : Int) (g2 : Bool) (n2 : Nat) (x2 : Int) (w : World) (h1 : okD g1 n1 x1) (h2 : okD g2 n2 x2) (hn : n2 = 0) : Calls Tryd.prog 13 #[.agg #[.bool g1, .string (S n1), .int .i64 x1], .agg #[.bool g2, .string (S n2), .int .i64 x2]] w fun e w' => e = .returned (.tuple #[.agg #[.bool false, .string ⟨#[]⟩, .int .i64 0], .int .i64 14]) ∧ Below w.heap.size w w' := by
  obtain ⟨hs1, hx1, hx2⟩ := ok_size h1
  obtain ⟨hs2, hx3, hx4⟩ := ok_size h2
  have HT := Lib.hid (T3.new w g1 (S n1) x1 g2 (S n2) x2)
  have ey : (S n2).toList = [] := tl_nil (by rw [hn]; rfl)
  clear h1 h2 hn
  have T := HT.out
  obtain ⟨a0, a1, a2⟩ := T.a.cells
  obtain ⟨b0, b1, b2⟩ := T.b.cells
  obtain ⟨c0, c1, c2⟩ := T.c.cells
  have y0 := T.c.fz 0
  have y1 := T.c.fz 1
  have y2 := T.c.fz 2
  clear a0 a1 a2 b0 b1 b2 c0 c1 c2 y0 y1 y2
  go_enter Tryd.func13, Tryd.ntmps13
  go_wp2
  exact bodyPost_ret (v := .tuple #[.agg #[.bool false, .string ⟨#[]⟩, .int .i64 0], .int .i64 14]) (by simp [results, Tryd.results13, go_sem]) rfl ⟨rfl, (((Below.refl _ _).alloc (Nat.le_refl _) _).alloc (by simp) _).alloc (by simp; try omega) _⟩
set_option maxRecDepth 100000 in
set_option maxHeartbeats 8000000 in
theorem rddiv_no (g1 : Bool) (n1 : Nat) (x1 : Int) (g2 : Bool) (n2 : Nat) (x2 : Int) (w : World) (h1 : okD g1 n1 x1) (h2 : okD g2 n2 x2) (k : Nat) (hk : k = 400) (hn : 0 < n2) (hr : n1 * 10 ^ k % n2 ≠ 0) : Calls Tryd.prog 13 #[.agg #[.bool g1, .string (S n1), .int .i64 x1], .agg #[.bool g2, .string (S n2), .int .i64 x2]] w fun e w' => e = .returned (.tuple #[.agg #[.bool false, .string ⟨#[]⟩, .int .i64 0], .int .i64 15]) ∧ Below w.heap.size w w' := by
  obtain ⟨hs1, hx1, hx2⟩ := ok_size h1
  obtain ⟨hs2, hx3, hx4⟩ := ok_size h2
  have HT := Lib.hid (T3.new w g1 (S n1) x1 g2 (S n2) x2)
  have hN : (S (n1 * 10 ^ k)).size ≤ 520 := by have := S_pow_size (k := k) hs1; omega
  have HO : Hid (∀ w, Calls Tryd.prog 37 #[.int .i64 400] w fun e w' => e = .returned (.string (noughts k)) ∧ Below w.heap.size w w') := Lib.hid (fun w => by have := noughts_any k w (by omega); rw [hk] at this ⊢; exact this)
  have HQ := Lib.hid (fun w => rq_any n1 n2 k w hs1 hs2 (by omega) hn)
  have hq1 := S_less hN (Nat.div_le_self (n1 * 10 ^ k) n2)
  have ho := noughts_size k
  have ho2 : (noughts k).size ≤ 400 := by omega
  have ey := tl_ne (S_pos hn)
  have ey' := tl_ne' (S_pos hn)
  clear ho
  have er := tl_ne (S_pos (n := n1 * 10 ^ k % n2) (by omega))
  have er' := tl_ne' (S_pos (n := n1 * 10 ^ k % n2) (by omega))
  clear h1 h2 hr hk
  generalize S (n1 * 10 ^ k % n2) = R at *
  generalize S (n1 * 10 ^ k / n2) = Q at *
  generalize S (n1 * 10 ^ k) = A at *
  generalize noughts k = O at *
  go_enter Tryd.func13, Tryd.ntmps13
  go_wp2
  have T := HT.out.four
  have hcat : ¬ 9223372036854775807 < (S n1).size + O.size := by omega
  have hcat2 : (S n1).size + O.size ≤ 9223372036854775807 := by omega
  go_region_held3 (fun (W : World) => T4 w W g1  (S n1) x1 g2 (S n2) x2 ∧ W.cell? ⟨w.heap.size, 0, none⟩ = some (.bool g1) ∧ W.cell? ⟨w.heap.size, 1, none⟩ = some (.string (S n1)) ∧ W.cell? ⟨w.heap.size, 2, none⟩ = some (.int .i64 x1) ∧ W.cell? ⟨w.heap.size + 1, 0, none⟩ = some (.bool g2) ∧ W.cell? ⟨w.heap.size + 1, 1, none⟩ = some (.string (S n2)) ∧ W.cell? ⟨w.heap.size + 1, 2, none⟩ = some (.int .i64 x2)) ((first | (go_split_ands; exact T4.all (by assumption)) | (go_split_ands; exact T4.all (T4.d (by assumption))) | (go_split_ands; exact T4.all (T4.step hX (by assumption))) | (go_split_ands; exact T4.all (T4.put (by assumption) _ _ _)))) (first | (go_at_call 37; (with_reducible refine (HO.out _).mono ?_); rintro e wn ⟨rfl, hX⟩) | (go_at_call 36; (with_reducible refine (HQ.out _).mono ?_); rintro e wn ⟨rfl, hX⟩))
  rename_i hH
  have T := hH.1
  clear hH hcat hcat2
  obtain ⟨a0, a1, a2⟩ := T.a.cells
  obtain ⟨b0, b1, b2⟩ := T.b.cells
  obtain ⟨g0, s0, z0, hD⟩ := T.c
  obtain ⟨c0, c1, c2⟩ := hD.cells
  have y0 := hD.fz 0
  have y1 := hD.fz 1
  have y2 := hD.fz 2
  clear hD
  go_wp2
  exact bodyPost_ret (v := .tuple #[.agg #[.bool false, .string ⟨#[]⟩, .int .i64 0], .int .i64 15]) (by simp [results, Tryd.results13, go_sem, c0, c1, c2]) rfl ⟨rfl, ((T.bel.setCell (by simp; try omega) _).setCell (by simp; try omega) _).setCell (by simp; try omega) _⟩
set_option maxRecDepth 100000 in
set_option maxHeartbeats 8000000 in
theorem rddiv_yes (g1 : Bool) (n1 : Nat) (x1 : Int) (g2 : Bool) (n2 : Nat) (x2 : Int) (w : World) (h1 : okD g1 n1 x1) (h2 : okD g2 n2 x2) (k : Nat) (hk : k = 400) (hn : 0 < n2) (hr : n1 * 10 ^ k % n2 = 0) : Calls Tryd.prog 13 #[.agg #[.bool g1, .string (S n1), .int .i64 x1], .agg #[.bool g2, .string (S n2), .int .i64 x2]] w fun e w' => e = .returned (.tuple #[.agg #[.bool (nG (g1 != g2) (n1 * 10 ^ k / n2) (x1 - x2 - 400)), .string (S (nN (n1 * 10 ^ k / n2) (x1 - x2 - 400))), .int .i64 (nX (n1 * 10 ^ k / n2) (x1 - x2 - 400))], .int .i64 (nE (n1 * 10 ^ k / n2) (x1 - x2 - 400))]) ∧ Below w.heap.size w w' := by
  obtain ⟨hs1, hx1, hx2⟩ := ok_size h1
  obtain ⟨hs2, hx3, hx4⟩ := ok_size h2
  have HT := Lib.hid (T3.new w g1 (S n1) x1 g2 (S n2) x2)
  have hN : (S (n1 * 10 ^ k)).size ≤ 520 := by have := S_pow_size (k := k) hs1; omega
  have HO : Hid (∀ w, Calls Tryd.prog 37 #[.int .i64 400] w fun e w' => e = .returned (.string (noughts k)) ∧ Below w.heap.size w w') := Lib.hid (fun w => by have := noughts_any k w (by omega); rw [hk] at this ⊢; exact this)
  have HQ := Lib.hid (fun w => rq_any n1 n2 k w hs1 hs2 (by omega) hn)
  have hq1 := S_less hN (Nat.div_le_self (n1 * 10 ^ k) n2)
  have ho := noughts_size k
  have ho2 : (noughts k).size ≤ 400 := by omega
  have ey := tl_ne (S_pos hn)
  have ey' := tl_ne' (S_pos hn)
  clear ho
  have er : (S (n1 * 10 ^ k % n2)).toList = [] := tl_nil (by rw [hr]; rfl)
  have HP := Lib.hid (fun w => strip_any (S (n1 * 10 ^ k / n2)) (n1 * 10 ^ k / n2) w (by omega) (Num_S _))
  have HM := Lib.hid (fun w => norm_any (g1 != g2) (S (n1 * 10 ^ k / n2)) (n1 * 10 ^ k / n2) (x1 - x2 - 400) w (Num_S _) (by omega) (by omega))
  obtain ⟨ra, ha⟩ : ∃ a, nG (g1 != g2) (n1 * 10 ^ k / n2) (x1 - x2 - 400) = a := ⟨_, rfl⟩
  obtain ⟨rb, hb⟩ : ∃ b, S (nN (n1 * 10 ^ k / n2) (x1 - x2 - 400)) = b := ⟨_, rfl⟩
  obtain ⟨rc, hc⟩ : ∃ c, nX (n1 * 10 ^ k / n2) (x1 - x2 - 400) = c := ⟨_, rfl⟩
  obtain ⟨rd, hd⟩ : ∃ d, nE (n1 * 10 ^ k / n2) (x1 - x2 - 400) = d := ⟨_, rfl⟩
  rw [ha, hb, hc, hd] at HM ⊢
  clear ha hb hc hd
  clear h1 h2 hr hk
  generalize S (n1 * 10 ^ k % n2) = R at *
  generalize S (n1 * 10 ^ k / n2) = Q at *
  generalize S (n1 * 10 ^ k) = A at *
  generalize noughts k = O at *
  rcases g1 with _ | _
  · rcases g2 with _ | _
    · simp only [bne_self_eq_false, Bool.false_bne, Bool.true_bne, Bool.not_false, Bool.not_true, Bool.bne_true, Bool.bne_false] at HM
      go_enter Tryd.func13, Tryd.ntmps13
      go_wp2
      have T := HT.out.four
      have hcat : ¬ 9223372036854775807 < (S n1).size + O.size := by omega
      have hcat2 : (S n1).size + O.size ≤ 9223372036854775807 := by omega
      go_region_held3 (fun (W : World) => T4 w W false  (S n1) x1 false (S n2) x2 ∧ W.cell? ⟨w.heap.size, 0, none⟩ = some (.bool false) ∧ W.cell? ⟨w.heap.size, 1, none⟩ = some (.string (S n1)) ∧ W.cell? ⟨w.heap.size, 2, none⟩ = some (.int .i64 x1) ∧ W.cell? ⟨w.heap.size + 1, 0, none⟩ = some (.bool false) ∧ W.cell? ⟨w.heap.size + 1, 1, none⟩ = some (.string (S n2)) ∧ W.cell? ⟨w.heap.size + 1, 2, none⟩ = some (.int .i64 x2)) ((first | (go_split_ands; exact T4.all (by assumption)) | (go_split_ands; exact T4.all (T4.d (by assumption))) | (go_split_ands; exact T4.all (T4.step hX (by assumption))) | (go_split_ands; exact T4.all (T4.put (by assumption) _ _ _)))) (first | (go_at_call 37; (with_reducible refine (HO.out _).mono ?_); rintro e wn ⟨rfl, hX⟩) | (go_at_call 36; (with_reducible refine (HQ.out _).mono ?_); rintro e wn ⟨rfl, hX⟩))
      rename_i hH
      have T := hH.1
      clear hH hcat hcat2
      obtain ⟨a0, a1, a2⟩ := T.a.cells
      obtain ⟨b0, b1, b2⟩ := T.b.cells
      obtain ⟨g0, s0, z0, hD⟩ := T.c
      obtain ⟨c0, c1, c2⟩ := hD.cells
      have y0 := hD.fz 0
      have y1 := hD.fz 1
      have y2 := hD.fz 2
      clear hD
      go_wp2
      have hw1 := IntWalk.i64_in (x1 - x2) (by omega)
      have hw2 := IntWalk.i64_in (x1 - x2 - 400) (by omega)
      clear a0 a1 a2 b0 b1 b2 c0 c1 c2 y0 y1 y2
      go_region_held3 (fun (W : World) => T4 w W false  (S n1) x1 false (S n2) x2 ∧ W.cell? ⟨w.heap.size, 0, none⟩ = some (.bool false) ∧ W.cell? ⟨w.heap.size, 1, none⟩ = some (.string (S n1)) ∧ W.cell? ⟨w.heap.size, 2, none⟩ = some (.int .i64 x1) ∧ W.cell? ⟨w.heap.size + 1, 0, none⟩ = some (.bool false) ∧ W.cell? ⟨w.heap.size + 1, 1, none⟩ = some (.string (S n2)) ∧ W.cell? ⟨w.heap.size + 1, 2, none⟩ = some (.int .i64 x2)) ((first | (go_split_ands; exact T4.all (by assumption)) | (go_split_ands; exact T4.all (T4.d (by assumption))) | (go_split_ands; exact T4.all (T4.step hX (by assumption))) | (go_split_ands; exact T4.all (T4.put (by assumption) _ _ _)))) (first | (go_at_call 38; (with_reducible refine (HP.out _).mono ?_); rintro e w' ⟨rfl, rfl⟩) | (go_at_call 34; (with_reducible refine (HM.out _).mono ?_); rintro e wn ⟨rfl, hX⟩) | (go_split_ands; obtain ⟨g0, s0, z0, hD⟩ := T4.c (by assumption); obtain ⟨c0, c1, c2⟩ := hD.cells; have y0 := hD.fz 0; have y1 := hD.fz 1; have y2 := hD.fz 2; go_simp))
      rename_i hH
      have bl := hH.1.bel
      clear hH T hw1 hw2
      go_wp2
      exact bodyPost_ret (v := .tuple #[.agg #[.bool ra, .string rb, .int .i64 rc], .int .i64 rd]) (by simp [results, Tryd.results13, go_sem, c0, c1, c2]) rfl ⟨rfl, bl⟩
    · simp only [bne_self_eq_false, Bool.false_bne, Bool.true_bne, Bool.not_false, Bool.not_true, Bool.bne_true, Bool.bne_false] at HM
      go_enter Tryd.func13, Tryd.ntmps13
      go_wp2
      have T := HT.out.four
      have hcat : ¬ 9223372036854775807 < (S n1).size + O.size := by omega
      have hcat2 : (S n1).size + O.size ≤ 9223372036854775807 := by omega
      go_region_held3 (fun (W : World) => T4 w W false  (S n1) x1 true (S n2) x2 ∧ W.cell? ⟨w.heap.size, 0, none⟩ = some (.bool false) ∧ W.cell? ⟨w.heap.size, 1, none⟩ = some (.string (S n1)) ∧ W.cell? ⟨w.heap.size, 2, none⟩ = some (.int .i64 x1) ∧ W.cell? ⟨w.heap.size + 1, 0, none⟩ = some (.bool true) ∧ W.cell? ⟨w.heap.size + 1, 1, none⟩ = some (.string (S n2)) ∧ W.cell? ⟨w.heap.size + 1, 2, none⟩ = some (.int .i64 x2)) ((first | (go_split_ands; exact T4.all (by assumption)) | (go_split_ands; exact T4.all (T4.d (by assumption))) | (go_split_ands; exact T4.all (T4.step hX (by assumption))) | (go_split_ands; exact T4.all (T4.put (by assumption) _ _ _)))) (first | (go_at_call 37; (with_reducible refine (HO.out _).mono ?_); rintro e wn ⟨rfl, hX⟩) | (go_at_call 36; (with_reducible refine (HQ.out _).mono ?_); rintro e wn ⟨rfl, hX⟩))
      rename_i hH
      have T := hH.1
      clear hH hcat hcat2
      obtain ⟨a0, a1, a2⟩ := T.a.cells
      obtain ⟨b0, b1, b2⟩ := T.b.cells
      obtain ⟨g0, s0, z0, hD⟩ := T.c
      obtain ⟨c0, c1, c2⟩ := hD.cells
      have y0 := hD.fz 0
      have y1 := hD.fz 1
      have y2 := hD.fz 2
      clear hD
      go_wp2
      have hw1 := IntWalk.i64_in (x1 - x2) (by omega)
      have hw2 := IntWalk.i64_in (x1 - x2 - 400) (by omega)
      clear a0 a1 a2 b0 b1 b2 c0 c1 c2 y0 y1 y2
      go_region_held3 (fun (W : World) => T4 w W false  (S n1) x1 true (S n2) x2 ∧ W.cell? ⟨w.heap.size, 0, none⟩ = some (.bool false) ∧ W.cell? ⟨w.heap.size, 1, none⟩ = some (.string (S n1)) ∧ W.cell? ⟨w.heap.size, 2, none⟩ = some (.int .i64 x1) ∧ W.cell? ⟨w.heap.size + 1, 0, none⟩ = some (.bool true) ∧ W.cell? ⟨w.heap.size + 1, 1, none⟩ = some (.string (S n2)) ∧ W.cell? ⟨w.heap.size + 1, 2, none⟩ = some (.int .i64 x2)) ((first | (go_split_ands; exact T4.all (by assumption)) | (go_split_ands; exact T4.all (T4.d (by assumption))) | (go_split_ands; exact T4.all (T4.step hX (by assumption))) | (go_split_ands; exact T4.all (T4.put (by assumption) _ _ _)))) (first | (go_at_call 38; (with_reducible refine (HP.out _).mono ?_); rintro e w' ⟨rfl, rfl⟩) | (go_at_call 34; (with_reducible refine (HM.out _).mono ?_); rintro e wn ⟨rfl, hX⟩) | (go_split_ands; obtain ⟨g0, s0, z0, hD⟩ := T4.c (by assumption); obtain ⟨c0, c1, c2⟩ := hD.cells; have y0 := hD.fz 0; have y1 := hD.fz 1; have y2 := hD.fz 2; go_simp))
      rename_i hH
      have bl := hH.1.bel
      clear hH T hw1 hw2
      go_wp2
      exact bodyPost_ret (v := .tuple #[.agg #[.bool ra, .string rb, .int .i64 rc], .int .i64 rd]) (by simp [results, Tryd.results13, go_sem, c0, c1, c2]) rfl ⟨rfl, bl⟩
  · rcases g2 with _ | _
    · simp only [bne_self_eq_false, Bool.false_bne, Bool.true_bne, Bool.not_false, Bool.not_true, Bool.bne_true, Bool.bne_false] at HM
      go_enter Tryd.func13, Tryd.ntmps13
      go_wp2
      have T := HT.out.four
      have hcat : ¬ 9223372036854775807 < (S n1).size + O.size := by omega
      have hcat2 : (S n1).size + O.size ≤ 9223372036854775807 := by omega
      go_region_held3 (fun (W : World) => T4 w W true  (S n1) x1 false (S n2) x2 ∧ W.cell? ⟨w.heap.size, 0, none⟩ = some (.bool true) ∧ W.cell? ⟨w.heap.size, 1, none⟩ = some (.string (S n1)) ∧ W.cell? ⟨w.heap.size, 2, none⟩ = some (.int .i64 x1) ∧ W.cell? ⟨w.heap.size + 1, 0, none⟩ = some (.bool false) ∧ W.cell? ⟨w.heap.size + 1, 1, none⟩ = some (.string (S n2)) ∧ W.cell? ⟨w.heap.size + 1, 2, none⟩ = some (.int .i64 x2)) ((first | (go_split_ands; exact T4.all (by assumption)) | (go_split_ands; exact T4.all (T4.d (by assumption))) | (go_split_ands; exact T4.all (T4.step hX (by assumption))) | (go_split_ands; exact T4.all (T4.put (by assumption) _ _ _)))) (first | (go_at_call 37; (with_reducible refine (HO.out _).mono ?_); rintro e wn ⟨rfl, hX⟩) | (go_at_call 36; (with_reducible refine (HQ.out _).mono ?_); rintro e wn ⟨rfl, hX⟩))
      rename_i hH
      have T := hH.1
      clear hH hcat hcat2
      obtain ⟨a0, a1, a2⟩ := T.a.cells
      obtain ⟨b0, b1, b2⟩ := T.b.cells
      obtain ⟨g0, s0, z0, hD⟩ := T.c
      obtain ⟨c0, c1, c2⟩ := hD.cells
      have y0 := hD.fz 0
      have y1 := hD.fz 1
      have y2 := hD.fz 2
      clear hD
      go_wp2
      have hw1 := IntWalk.i64_in (x1 - x2) (by omega)
      have hw2 := IntWalk.i64_in (x1 - x2 - 400) (by omega)
      clear a0 a1 a2 b0 b1 b2 c0 c1 c2 y0 y1 y2
      go_region_held3 (fun (W : World) => T4 w W true  (S n1) x1 false (S n2) x2 ∧ W.cell? ⟨w.heap.size, 0, none⟩ = some (.bool true) ∧ W.cell? ⟨w.heap.size, 1, none⟩ = some (.string (S n1)) ∧ W.cell? ⟨w.heap.size, 2, none⟩ = some (.int .i64 x1) ∧ W.cell? ⟨w.heap.size + 1, 0, none⟩ = some (.bool false) ∧ W.cell? ⟨w.heap.size + 1, 1, none⟩ = some (.string (S n2)) ∧ W.cell? ⟨w.heap.size + 1, 2, none⟩ = some (.int .i64 x2)) ((first | (go_split_ands; exact T4.all (by assumption)) | (go_split_ands; exact T4.all (T4.d (by assumption))) | (go_split_ands; exact T4.all (T4.step hX (by assumption))) | (go_split_ands; exact T4.all (T4.put (by assumption) _ _ _)))) (first | (go_at_call 38; (with_reducible refine (HP.out _).mono ?_); rintro e w' ⟨rfl, rfl⟩) | (go_at_call 34; (with_reducible refine (HM.out _).mono ?_); rintro e wn ⟨rfl, hX⟩) | (go_split_ands; obtain ⟨g0, s0, z0, hD⟩ := T4.c (by assumption); obtain ⟨c0, c1, c2⟩ := hD.cells; have y0 := hD.fz 0; have y1 := hD.fz 1; have y2 := hD.fz 2; go_simp))
      rename_i hH
      have bl := hH.1.bel
      clear hH T hw1 hw2
      go_wp2
      exact bodyPost_ret (v := .tuple #[.agg #[.bool ra, .string rb, .int .i64 rc], .int .i64 rd]) (by simp [results, Tryd.results13, go_sem, c0, c1, c2]) rfl ⟨rfl, bl⟩
    · simp only [bne_self_eq_false, Bool.false_bne, Bool.true_bne, Bool.not_false, Bool.not_true, Bool.bne_true, Bool.bne_false] at HM
      go_enter Tryd.func13, Tryd.ntmps13
      go_wp2
      have T := HT.out.four
      have hcat : ¬ 9223372036854775807 < (S n1).size + O.size := by omega
      have hcat2 : (S n1).size + O.size ≤ 9223372036854775807 := by omega
      go_region_held3 (fun (W : World) => T4 w W true  (S n1) x1 true (S n2) x2 ∧ W.cell? ⟨w.heap.size, 0, none⟩ = some (.bool true) ∧ W.cell? ⟨w.heap.size, 1, none⟩ = some (.string (S n1)) ∧ W.cell? ⟨w.heap.size, 2, none⟩ = some (.int .i64 x1) ∧ W.cell? ⟨w.heap.size + 1, 0, none⟩ = some (.bool true) ∧ W.cell? ⟨w.heap.size + 1, 1, none⟩ = some (.string (S n2)) ∧ W.cell? ⟨w.heap.size + 1, 2, none⟩ = some (.int .i64 x2)) ((first | (go_split_ands; exact T4.all (by assumption)) | (go_split_ands; exact T4.all (T4.d (by assumption))) | (go_split_ands; exact T4.all (T4.step hX (by assumption))) | (go_split_ands; exact T4.all (T4.put (by assumption) _ _ _)))) (first | (go_at_call 37; (with_reducible refine (HO.out _).mono ?_); rintro e wn ⟨rfl, hX⟩) | (go_at_call 36; (with_reducible refine (HQ.out _).mono ?_); rintro e wn ⟨rfl, hX⟩))
      rename_i hH
      have T := hH.1
      clear hH hcat hcat2
      obtain ⟨a0, a1, a2⟩ := T.a.cells
      obtain ⟨b0, b1, b2⟩ := T.b.cells
      obtain ⟨g0, s0, z0, hD⟩ := T.c
      obtain ⟨c0, c1, c2⟩ := hD.cells
      have y0 := hD.fz 0
      have y1 := hD.fz 1
      have y2 := hD.fz 2
      clear hD
      go_wp2
      have hw1 := IntWalk.i64_in (x1 - x2) (by omega)
      have hw2 := IntWalk.i64_in (x1 - x2 - 400) (by omega)
      clear a0 a1 a2 b0 b1 b2 c0 c1 c2 y0 y1 y2
      go_region_held3 (fun (W : World) => T4 w W true  (S n1) x1 true (S n2) x2 ∧ W.cell? ⟨w.heap.size, 0, none⟩ = some (.bool true) ∧ W.cell? ⟨w.heap.size, 1, none⟩ = some (.string (S n1)) ∧ W.cell? ⟨w.heap.size, 2, none⟩ = some (.int .i64 x1) ∧ W.cell? ⟨w.heap.size + 1, 0, none⟩ = some (.bool true) ∧ W.cell? ⟨w.heap.size + 1, 1, none⟩ = some (.string (S n2)) ∧ W.cell? ⟨w.heap.size + 1, 2, none⟩ = some (.int .i64 x2)) ((first | (go_split_ands; exact T4.all (by assumption)) | (go_split_ands; exact T4.all (T4.d (by assumption))) | (go_split_ands; exact T4.all (T4.step hX (by assumption))) | (go_split_ands; exact T4.all (T4.put (by assumption) _ _ _)))) (first | (go_at_call 38; (with_reducible refine (HP.out _).mono ?_); rintro e w' ⟨rfl, rfl⟩) | (go_at_call 34; (with_reducible refine (HM.out _).mono ?_); rintro e wn ⟨rfl, hX⟩) | (go_split_ands; obtain ⟨g0, s0, z0, hD⟩ := T4.c (by assumption); obtain ⟨c0, c1, c2⟩ := hD.cells; have y0 := hD.fz 0; have y1 := hD.fz 1; have y2 := hD.fz 2; go_simp))
      rename_i hH
      have bl := hH.1.bel
      clear hH T hw1 hw2
      go_wp2
      exact bodyPost_ret (v := .tuple #[.agg #[.bool ra, .string rb, .int .i64 rc], .int .i64 rd]) (by simp [results, Tryd.results13, go_sem, c0, c1, c2]) rfl ⟨rfl, bl⟩
end Go.Proofs.YtelehjdhjjedhabDoor.Dec
