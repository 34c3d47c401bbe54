/-
  Contracts of package decimal and its reference: products and quotients.
-/
import Derived.Test.YtelehjdhjjedhabDoorDecE
import Derived.Deep.RegionHeld3
import Derived.IntWalk
namespace Go.Proofs.YtelehjdhjjedhabDoor.Dec
open Go.RowKit
set_option linter.unusedVariables false
set_option linter.unusedSimpArgs false
open Go.Proofs.YtelehjdhjjedhabDoor.Dig

theorem ok_size {g : Bool} {n : Nat} {x : Int} (h : okD g n x) : (S n).size ≤ 120 ∧ -400 ≤ x ∧ x ≤ 400 := by
  rcases h with ⟨rfl, rfl, rfl⟩ | ⟨_, _, hl, h1, h2⟩
  · exact ⟨by decide, by decide, by decide⟩
  · exact ⟨by rw [S_size]; exact hl, h1, h2⟩
theorem DC.dr {w : World} {A : Nat} {g : Bool} {s : ByteArray} {x : Int} (h : DC w A g s x) : DC w.drew A g s x := h
theorem T3.d {w W : World} {g1 g2 : Bool} {s1 s2 : ByteArray} {x1 x2 : Int} (h : T3 w W g1 s1 x1 g2 s2 x2) : T3 w W.drew g1 s1 x1 g2 s2 x2 := ⟨h.a.dr, h.b.dr, h.c.dr, h.bel.drew⟩
/-- Two decimals, and some result, in blocks of their own. -/
structure T4 (w W : World) (g1 : Bool) (s1 : ByteArray) (x1 : Int) (g2 : Bool) (s2 : ByteArray) (x2 : Int) : Prop where
  a : DC W w.heap.size g1 s1 x1
  b : DC W (w.heap.size + 1) g2 s2 x2
  c : ∃ g s x, DC W (w.heap.size + 2) g s x
  bel : Below w.heap.size w W
section
variable {w W W' : World} {g1 g2 : Bool} {s1 s2 : ByteArray} {x1 x2 : Int}
theorem T3.four (h : T3 w W g1 s1 x1 g2 s2 x2) : T4 w W g1 s1 x1 g2 s2 x2 := ⟨h.a, h.b, ⟨_, _, _, h.c⟩, h.bel⟩
theorem T4.d (h : T4 w W g1 s1 x1 g2 s2 x2) : T4 w W.drew g1 s1 x1 g2 s2 x2 := ⟨h.a.dr, h.b.dr, by obtain ⟨_, _, _, hc⟩ := h.c; exact ⟨_, _, _, hc.dr⟩, h.bel.drew⟩
theorem T4.step (hb : Below W.heap.size W W') (h : T4 w W g1 s1 x1 g2 s2 x2) : T4 w W' g1 s1 x1 g2 s2 x2 :=
  ⟨h.a.below hb h.a.lt, h.b.below hb h.b.lt, by obtain ⟨_, _, _, hc⟩ := h.c; exact ⟨_, _, _, hc.below hb hc.lt⟩, h.bel.trans (hb.mono h.bel.size)⟩
theorem T4.put (h : T4 w W g1 s1 x1 g2 s2 x2) (g : Bool) (s : ByteArray) (x : Int) : T4 w (((W.setCell ⟨w.heap.size + 2, 0, none⟩ (.bool g)).setCell ⟨w.heap.size + 2, 1, none⟩ (.string s)).setCell ⟨w.heap.size + 2, 2, none⟩ (.int .i64 x)) g1 s1 x1 g2 s2 x2 := by
  have blk : ∀ k, k ≠ w.heap.size + 2 → (((W.setCell ⟨w.heap.size + 2, 0, none⟩ (.bool g)).setCell ⟨w.heap.size + 2, 1, none⟩ (.string s)).setCell ⟨w.heap.size + 2, 2, none⟩ (.int .i64 x)).heap[k]? = W.heap[k]? := fun k hk => by
    rw [Below.heap_setCell _ _ _ _ hk, Below.heap_setCell _ _ _ _ hk, Below.heap_setCell _ _ _ _ hk]
  obtain ⟨g0, s0, z0, hc⟩ := h.c
  refine ⟨World.rowIs.of_block h.a (blk _ (by omega)), World.rowIs.of_block h.b (blk _ (by omega)), ⟨g, s, x, ?_⟩, ((h.bel.setCell (by simp) _).setCell (by simp) _).setCell (by simp) _⟩
  exact (((World.rowIs.set hc 0 _).set 1 _).set 2 _).congr fun i hi => by
    rcases (show i = 0 ∨ i = 1 ∨ i = 2 by omega) with rfl | rfl | rfl <;> rfl
theorem T4.all (h : T4 w W g1 s1 x1 g2 s2 x2) : T4 w W g1 s1 x1 g2 s2 x2 ∧ W.cell? ⟨w.heap.size, 0, none⟩ = some (.bool g1) ∧ W.cell? ⟨w.heap.size, 1, none⟩ = some (.string s1) ∧ W.cell? ⟨w.heap.size, 2, none⟩ = some (.int .i64 x1) ∧ W.cell? ⟨w.heap.size + 1, 0, none⟩ = some (.bool g2) ∧ W.cell? ⟨w.heap.size + 1, 1, none⟩ = some (.string s2) ∧ W.cell? ⟨w.heap.size + 1, 2, none⟩ = some (.int .i64 x2) :=
  ⟨h, h.a.cells.1, h.a.cells.2.1, h.a.cells.2.2, h.b.cells.1, h.b.cells.2.1, h.b.cells.2.2⟩
end
theorem S_prod {n1 n2 a b : Nat} (h1 : (S n1).size ≤ a) (h2 : (S n2).size ≤ b) : (S (n1 * n2)).size ≤ a + b := by
  rw [S_size, num_len] at *
  rw [Nat.pow_add]
  exact Nat.mul_lt_mul'' h1 h2
set_option maxRecDepth 100000 in
set_option maxHeartbeats 8000000 in
theorem dmul_any (g1 : Bool) (n1 : Nat) (x1 : Int) (g2 : Bool) (n2 : Nat) (x2 : Int) (w : World) (h1 : okD g1 n1 x1) (h2 : okD g2 n2 x2) : Calls Tryd.prog 10 #[.agg #[.bool g1, .string (S n1), .int .i64 x1], .agg #[.bool g2, .string (S n2), .int .i64 x2]] w fun e w' => e = .returned (.tuple #[.agg #[.bool (nG (g1 != g2) (n1 * n2) (x1 + x2)), .string (S (nN (n1 * n2) (x1 + x2))), .int .i64 (nX (n1 * n2) (x1 + x2))], .int .i64 (nE (n1 * n2) (x1 + x2))]) ∧ Below w.heap.size w w' := by
  obtain ⟨hs1, hx1, hx2⟩ := ok_size h1
  obtain ⟨hs2, hx3, hx4⟩ := ok_size h2
  have HT := Lib.hid (T3.new w g1 (S n1) x1 g2 (S n2) x2)
  have HV1 := Lib.hid (fun w => dvalid_ok w h1)
  have HV2 := Lib.hid (fun w => dvalid_ok w h2)
  have hp := S_prod hs1 hs2
  have HU := Lib.hid (fun w => mul_any n1 n2 w (by omega) (by omega))
  have hl1 : limS (n1 * n2) = n1 * n2 := by unfold limS; rw [if_pos (by rw [← S_size]; omega)]
  have hl2 : limE (n1 * n2) = 0 := by unfold limE; rw [if_pos (by rw [← S_size]; omega)]
  rw [hl1, hl2] at HU
  have HM := Lib.hid (fun w => make_any (g1 != g2) (S (n1 * n2)) (n1 * n2) (x1 + x2) w (Num_S _) (by omega) (by omega))
  obtain ⟨ra, ha⟩ : ∃ a, nG (g1 != g2) (n1 * n2) (x1 + x2) = a := ⟨_, rfl⟩
  obtain ⟨rb, hb⟩ : ∃ b, S (nN (n1 * n2) (x1 + x2)) = b := ⟨_, rfl⟩
  obtain ⟨rc, hc⟩ : ∃ c, nX (n1 * n2) (x1 + x2) = c := ⟨_, rfl⟩
  obtain ⟨rd, hd⟩ : ∃ d, nE (n1 * n2) (x1 + x2) = d := ⟨_, rfl⟩
  rw [ha, hb, hc, hd] at HM ⊢
  clear ha hb hc hd
  clear hl1 hl2 h1 h2
  generalize S (n1 * n2) = P at *
  have T := HT.out
  cases g1
  all_goals
    cases g2
    all_goals
      simp only [bne_self_eq_false, Bool.false_bne, Bool.true_bne, Bool.not_false, Bool.not_true, Bool.bne_true, Bool.bne_false] at HM
      go_enter Tryd.func10, Tryd.ntmps10
      go_wp2_with (first | (go_at_call 29; first | ((with_reducible refine (HV1.out _).mono ?_); rintro e w1 ⟨rfl, hX⟩; have T := T.step hX; clear hX; obtain ⟨a0, a1, a2⟩ := T.a.cells; obtain ⟨b0, b1, b2⟩ := T.b.cells; obtain ⟨c0, c1, c2⟩ := T.c.cells; have y0 := T.c.fz 0; have y1 := T.c.fz 1; have y2 := T.c.fz 2) | ((with_reducible refine (HV2.out _).mono ?_); rintro e w1 ⟨rfl, hX⟩; have T := T.step hX; clear hX; obtain ⟨a0, a1, a2⟩ := T.a.cells; obtain ⟨b0, b1, b2⟩ := T.b.cells; obtain ⟨c0, c1, c2⟩ := T.c.cells; have y0 := T.c.fz 0; have y1 := T.c.fz 1; have y2 := T.c.fz 2)) | (go_at_call 30; (with_reducible refine (HU.out _).mono ?_); rintro e w1 ⟨rfl, hX⟩; have T := T.step hX; clear hX; obtain ⟨a0, a1, a2⟩ := T.a.cells; obtain ⟨b0, b1, b2⟩ := T.b.cells; obtain ⟨c0, c1, c2⟩ := T.c.cells; have y0 := T.c.fz 0; have y1 := T.c.fz 1; have y2 := T.c.fz 2) | (go_at_call 31; (with_reducible refine (HM.out _).mono ?_); rintro e w1 ⟨rfl, hX⟩; have T := T.step hX; clear hX; obtain ⟨a0, a1, a2⟩ := T.a.cells; obtain ⟨b0, b1, b2⟩ := T.b.cells; obtain ⟨c0, c1, c2⟩ := T.c.cells; have y0 := T.c.fz 0; have y1 := T.c.fz 1; have y2 := T.c.fz 2))
      exact bodyPost_ret (v := .tuple #[.agg #[.bool ra, .string rb, .int .i64 rc], .int .i64 rd]) (by simp [results, Tryd.results10, go_sem, c0, c1, c2]) rfl ⟨rfl, ((T.bel.setCell (by simp; try omega) _).setCell (by simp; try omega) _).setCell (by simp; try omega) _⟩
set_option maxRecDepth 100000 in
set_option maxHeartbeats 8000000 in
theorem rdmul_any (g1 : Bool) (n1 : Nat) (x1 : Int) (g2 : Bool) (n2 : Nat) (x2 : Int) (w : World) (h1 : okD g1 n1 x1) (h2 : okD g2 n2 x2) : Calls Tryd.prog 12 #[.agg #[.bool g1, .string (S n1), .int .i64 x1], .agg #[.bool g2, .string (S n2), .int .i64 x2]] w fun e w' => e = .returned (.tuple #[.agg #[.bool (nG (g1 != g2) (n1 * n2) (x1 + x2)), .string (S (nN (n1 * n2) (x1 + x2))), .int .i64 (nX (n1 * n2) (x1 + x2))], .int .i64 (nE (n1 * n2) (x1 + x2))]) ∧ Below w.heap.size w w' := by
  obtain ⟨hs1, hx1, hx2⟩ := ok_size h1
  obtain ⟨hs2, hx3, hx4⟩ := ok_size h2
  have HT := Lib.hid (T3.new w g1 (S n1) x1 g2 (S n2) x2)
  have hp := S_prod hs1 hs2
  have HU := Lib.hid (fun w => times_any n1 n2 w (by omega) (by omega))
  have HM := Lib.hid (fun w => norm_any (g1 != g2) (S (n1 * n2)) (n1 * n2) (x1 + x2) w (Num_S _) (by omega) (by omega))
  obtain ⟨ra, ha⟩ : ∃ a, nG (g1 != g2) (n1 * n2) (x1 + x2) = a := ⟨_, rfl⟩
  obtain ⟨rb, hb⟩ : ∃ b, S (nN (n1 * n2) (x1 + x2)) = b := ⟨_, rfl⟩
  obtain ⟨rc, hc⟩ : ∃ c, nX (n1 * n2) (x1 + x2) = c := ⟨_, rfl⟩
  obtain ⟨rd, hd⟩ : ∃ d, nE (n1 * n2) (x1 + x2) = d := ⟨_, rfl⟩
  rw [ha, hb, hc, hd] at HM ⊢
  clear ha hb hc hd
  clear h1 h2
  generalize S (n1 * n2) = P at *
  rcases g1 with _ | _
  · rcases g2 with _ | _
    · simp only [bne_self_eq_false, Bool.false_bne, Bool.true_bne, Bool.not_false, Bool.not_true, Bool.bne_true, Bool.bne_false] at HM
      go_enter Tryd.func12, Tryd.ntmps12
      go_wp2
      have T := HT.out.four
      have hwx := IntWalk.i64_in (x1 + x2) (by omega)
      go_region_held3 (fun (W : World) => T4 w W false  (S n1) x1 false (S n2) x2 ∧ W.cell? ⟨w.heap.size, 0, none⟩ = some (.bool false) ∧ W.cell? ⟨w.heap.size, 1, none⟩ = some (.string (S n1)) ∧ W.cell? ⟨w.heap.size, 2, none⟩ = some (.int .i64 x1) ∧ W.cell? ⟨w.heap.size + 1, 0, none⟩ = some (.bool false) ∧ W.cell? ⟨w.heap.size + 1, 1, none⟩ = some (.string (S n2)) ∧ W.cell? ⟨w.heap.size + 1, 2, none⟩ = some (.int .i64 x2)) ((first | (go_split_ands; exact T4.all (by assumption)) | (go_split_ands; exact T4.all (T4.d (by assumption))) | (go_split_ands; exact T4.all (T4.step hX (by assumption))) | (go_split_ands; exact T4.all (T4.put (by assumption) _ _ _)))) (first | (go_at_call 35; (with_reducible refine (HU.out _).mono ?_); rintro e wn ⟨rfl, hX⟩) | (go_at_call 34; (with_reducible refine (HM.out _).mono ?_); rintro e wn ⟨rfl, hX⟩) | (go_split_ands; obtain ⟨g0, s0, z0, hD⟩ := T4.c (by assumption); obtain ⟨c0, c1, c2⟩ := hD.cells; have y0 := hD.fz 0; have y1 := hD.fz 1; have y2 := hD.fz 2; go_simp))
      rename_i hH
      have bl := hH.1.bel
      clear hH hwx T
      go_wp2
      exact bodyPost_ret (v := .tuple #[.agg #[.bool ra, .string rb, .int .i64 rc], .int .i64 rd]) (by simp [results, Tryd.results12, go_sem, c0, c1, c2]) rfl ⟨rfl, bl⟩
    · simp only [bne_self_eq_false, Bool.false_bne, Bool.true_bne, Bool.not_false, Bool.not_true, Bool.bne_true, Bool.bne_false] at HM
      go_enter Tryd.func12, Tryd.ntmps12
      go_wp2
      have T := HT.out.four
      have hwx := IntWalk.i64_in (x1 + x2) (by omega)
      go_region_held3 (fun (W : World) => T4 w W false  (S n1) x1 true (S n2) x2 ∧ W.cell? ⟨w.heap.size, 0, none⟩ = some (.bool false) ∧ W.cell? ⟨w.heap.size, 1, none⟩ = some (.string (S n1)) ∧ W.cell? ⟨w.heap.size, 2, none⟩ = some (.int .i64 x1) ∧ W.cell? ⟨w.heap.size + 1, 0, none⟩ = some (.bool true) ∧ W.cell? ⟨w.heap.size + 1, 1, none⟩ = some (.string (S n2)) ∧ W.cell? ⟨w.heap.size + 1, 2, none⟩ = some (.int .i64 x2)) ((first | (go_split_ands; exact T4.all (by assumption)) | (go_split_ands; exact T4.all (T4.d (by assumption))) | (go_split_ands; exact T4.all (T4.step hX (by assumption))) | (go_split_ands; exact T4.all (T4.put (by assumption) _ _ _)))) (first | (go_at_call 35; (with_reducible refine (HU.out _).mono ?_); rintro e wn ⟨rfl, hX⟩) | (go_at_call 34; (with_reducible refine (HM.out _).mono ?_); rintro e wn ⟨rfl, hX⟩) | (go_split_ands; obtain ⟨g0, s0, z0, hD⟩ := T4.c (by assumption); obtain ⟨c0, c1, c2⟩ := hD.cells; have y0 := hD.fz 0; have y1 := hD.fz 1; have y2 := hD.fz 2; go_simp))
      rename_i hH
      have bl := hH.1.bel
      clear hH hwx T
      go_wp2
      exact bodyPost_ret (v := .tuple #[.agg #[.bool ra, .string rb, .int .i64 rc], .int .i64 rd]) (by simp [results, Tryd.results12, go_sem, c0, c1, c2]) rfl ⟨rfl, bl⟩
  · rcases g2 with _ | _
    · simp only [bne_self_eq_false, Bool.false_bne, Bool.true_bne, Bool.not_false, Bool.not_true, Bool.bne_true, Bool.bne_false] at HM
      go_enter Tryd.func12, Tryd.ntmps12
      go_wp2
      have T := HT.out.four
      have hwx := IntWalk.i64_in (x1 + x2) (by omega)
      go_region_held3 (fun (W : World) => T4 w W true  (S n1) x1 false (S n2) x2 ∧ W.cell? ⟨w.heap.size, 0, none⟩ = some (.bool true) ∧ W.cell? ⟨w.heap.size, 1, none⟩ = some (.string (S n1)) ∧ W.cell? ⟨w.heap.size, 2, none⟩ = some (.int .i64 x1) ∧ W.cell? ⟨w.heap.size + 1, 0, none⟩ = some (.bool false) ∧ W.cell? ⟨w.heap.size + 1, 1, none⟩ = some (.string (S n2)) ∧ W.cell? ⟨w.heap.size + 1, 2, none⟩ = some (.int .i64 x2)) ((first | (go_split_ands; exact T4.all (by assumption)) | (go_split_ands; exact T4.all (T4.d (by assumption))) | (go_split_ands; exact T4.all (T4.step hX (by assumption))) | (go_split_ands; exact T4.all (T4.put (by assumption) _ _ _)))) (first | (go_at_call 35; (with_reducible refine (HU.out _).mono ?_); rintro e wn ⟨rfl, hX⟩) | (go_at_call 34; (with_reducible refine (HM.out _).mono ?_); rintro e wn ⟨rfl, hX⟩) | (go_split_ands; obtain ⟨g0, s0, z0, hD⟩ := T4.c (by assumption); obtain ⟨c0, c1, c2⟩ := hD.cells; have y0 := hD.fz 0; have y1 := hD.fz 1; have y2 := hD.fz 2; go_simp))
      rename_i hH
      have bl := hH.1.bel
      clear hH hwx T
      go_wp2
      exact bodyPost_ret (v := .tuple #[.agg #[.bool ra, .string rb, .int .i64 rc], .int .i64 rd]) (by simp [results, Tryd.results12, go_sem, c0, c1, c2]) rfl ⟨rfl, bl⟩
    · simp only [bne_self_eq_false, Bool.false_bne, Bool.true_bne, Bool.not_false, Bool.not_true, Bool.bne_true, Bool.bne_false] at HM
      go_enter Tryd.func12, Tryd.ntmps12
      go_wp2
      have T := HT.out.four
      have hwx := IntWalk.i64_in (x1 + x2) (by omega)
      go_region_held3 (fun (W : World) => T4 w W true  (S n1) x1 true (S n2) x2 ∧ W.cell? ⟨w.heap.size, 0, none⟩ = some (.bool true) ∧ W.cell? ⟨w.heap.size, 1, none⟩ = some (.string (S n1)) ∧ W.cell? ⟨w.heap.size, 2, none⟩ = some (.int .i64 x1) ∧ W.cell? ⟨w.heap.size + 1, 0, none⟩ = some (.bool true) ∧ W.cell? ⟨w.heap.size + 1, 1, none⟩ = some (.string (S n2)) ∧ W.cell? ⟨w.heap.size + 1, 2, none⟩ = some (.int .i64 x2)) ((first | (go_split_ands; exact T4.all (by assumption)) | (go_split_ands; exact T4.all (T4.d (by assumption))) | (go_split_ands; exact T4.all (T4.step hX (by assumption))) | (go_split_ands; exact T4.all (T4.put (by assumption) _ _ _)))) (first | (go_at_call 35; (with_reducible refine (HU.out _).mono ?_); rintro e wn ⟨rfl, hX⟩) | (go_at_call 34; (with_reducible refine (HM.out _).mono ?_); rintro e wn ⟨rfl, hX⟩) | (go_split_ands; obtain ⟨g0, s0, z0, hD⟩ := T4.c (by assumption); obtain ⟨c0, c1, c2⟩ := hD.cells; have y0 := hD.fz 0; have y1 := hD.fz 1; have y2 := hD.fz 2; go_simp))
      rename_i hH
      have bl := hH.1.bel
      clear hH hwx T
      go_wp2
      exact bodyPost_ret (v := .tuple #[.agg #[.bool ra, .string rb, .int .i64 rc], .int .i64 rd]) (by simp [results, Tryd.results12, go_sem, c0, c1, c2]) rfl ⟨rfl, bl⟩
end Go.Proofs.YtelehjdhjjedhabDoor.Dec
