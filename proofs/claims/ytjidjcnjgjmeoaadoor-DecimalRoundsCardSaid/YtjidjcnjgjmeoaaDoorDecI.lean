/-
  Contracts of package decimal and its reference: exact quotients.
-/
import Derived.Test.YtjidjcnjgjmeoaaDoorDecH
namespace Go.Proofs.YtjidjcnjgjmeoaaDoor.Dec
open Go.RowKit
set_option linter.unusedVariables false
set_option linter.unusedSimpArgs false
open Go.Proofs.YtjidjcnjgjmeoaaDoor.Dig

theorem S_pow_size {n k a : Nat} (h : (S n).size ≤ a) : (S (n * 10 ^ k)).size ≤ a + k := by
  rcases Nat.eq_zero_or_pos n with h0 | h0
  · subst h0; rw [Nat.zero_mul]; show 0 ≤ _; omega
  · rw [S_size, len_pow h0, ← S_size]; omega
theorem S_less {n m a : Nat} (h : (S m).size ≤ a) (hn : n ≤ m) : (S n).size ≤ a := by
  rw [S_size, num_len] at *; omega
theorem S_noughts {n : Nat} (k : Nat) (hn : 0 < n) : S n ++ noughts k = S (n * 10 ^ k) := S_mul hn (noughts_list k)
theorem S_noughts0 (k : Nat) : S 0 ++ noughts k = noughts k := ba_ext (by rw [Joins.data_append]; rfl)
set_option maxRecDepth 100000 in
set_option maxHeartbeats 8000000 in
theorem ddiv_zero (g1 : Bool) (n1 : Nat) (x1 : Int) (g2 : Bool) (n2 : Nat) (x2 : Int) (w : World) (h1 : okD g1 n1 x1) (h2 : okD g2 n2 x2) (hn : n2 = 0) : Calls Tryd.prog 16 #[.agg #[.bool g1, .string (S n1), .int .i64 x1], .agg #[.bool g2, .string (S n2), .int .i64 x2]] w fun e w' => e = .returned (.tuple #[.agg #[.bool false, .string ⟨#[]⟩, .int .i64 0], .int .i64 14]) ∧ Below w.heap.size w w' := by
  obtain ⟨hs1, hx1, hx2⟩ := ok_size h1
  obtain ⟨hs2, hx3, hx4⟩ := ok_size h2
  have HT := Lib.hid (T3.new w g1 (S n1) x1 g2 (S n2) x2)
  have HV1 := Lib.hid (fun w => dvalid_ok w h1)
  have HV2 := Lib.hid (fun w => dvalid_ok w h2)
  have ey : (S n2).toList = [] := tl_nil (by rw [hn]; rfl)
  clear h1 h2 hn
  have T := HT.out
  go_enter Tryd.func16, Tryd.ntmps16
  go_wp2_with (first | (go_at_call 15; first | ((with_reducible refine (HV1.out _).mono ?_); rintro e w1 ⟨rfl, hX⟩; have T := T.step hX; clear hX; obtain ⟨a0, a1, a2⟩ := T.a.cells; obtain ⟨b0, b1, b2⟩ := T.b.cells; obtain ⟨c0, c1, c2⟩ := T.c.cells; have y0 := T.c.fz 0; have y1 := T.c.fz 1; have y2 := T.c.fz 2) | ((with_reducible refine (HV2.out _).mono ?_); rintro e w1 ⟨rfl, hX⟩; have T := T.step hX; clear hX; obtain ⟨a0, a1, a2⟩ := T.a.cells; obtain ⟨b0, b1, b2⟩ := T.b.cells; obtain ⟨c0, c1, c2⟩ := T.c.cells; have y0 := T.c.fz 0; have y1 := T.c.fz 1; have y2 := T.c.fz 2)))
  exact bodyPost_ret (v := .tuple #[.agg #[.bool false, .string ⟨#[]⟩, .int .i64 0], .int .i64 14]) (by simp [results, Tryd.results16, go_sem, c0, c1, c2]) rfl ⟨rfl, ((T.bel.setCell (by simp; try omega) _).setCell (by simp; try omega) _).setCell (by simp; try omega) _⟩
set_option maxRecDepth 100000 in
set_option maxHeartbeats 8000000 in
theorem ddiv_no (g1 : Bool) (n1 : Nat) (x1 : Int) (g2 : Bool) (n2 : Nat) (x2 : Int) (w : World) (h1 : okD g1 n1 x1) (h2 : okD g2 n2 x2) (k : Nat) (hk : k = 400) (hn : 0 < n2) (hr : n1 * 10 ^ k % n2 ≠ 0) : Calls Tryd.prog 16 #[.agg #[.bool g1, .string (S n1), .int .i64 x1], .agg #[.bool g2, .string (S n2), .int .i64 x2]] w fun e w' => e = .returned (.tuple #[.agg #[.bool false, .string ⟨#[]⟩, .int .i64 0], .int .i64 15]) ∧ Below w.heap.size w w' := by
  obtain ⟨hs1, hx1, hx2⟩ := ok_size h1
  obtain ⟨hs2, hx3, hx4⟩ := ok_size h2
  have HT := Lib.hid (T3.new w g1 (S n1) x1 g2 (S n2) x2)
  have HV1 := Lib.hid (fun w => dvalid_ok w h1)
  have HV2 := Lib.hid (fun w => dvalid_ok w h2)
  have hN : (S (n1 * 10 ^ k)).size ≤ 520 := by have := S_pow_size (k := k) hs1; omega
  have HS := Lib.hid (fun w => shift_ok (n := n1) (k := k) 400 (by rw [hk]; rfl) w (by omega))
  have HQ := Lib.hid (fun w => quo_any (n1 * 10 ^ k) n2 w (by omega) (by omega) hn)
  have hq1 := S_less hN (Nat.div_le_self (n1 * 10 ^ k) n2)
  have ey := tl_ne (S_pos hn)
  have ey' := tl_ne' (S_pos hn)
  have er := tl_ne (S_pos (n := n1 * 10 ^ k % n2) (by omega))
  have er' := tl_ne' (S_pos (n := n1 * 10 ^ k % n2) (by omega))
  clear h1 h2 hr hk
  generalize S (n1 * 10 ^ k % n2) = R at *
  generalize S (n1 * 10 ^ k / n2) = Q at *
  generalize S (n1 * 10 ^ k) = A at *
  have T := HT.out
  go_enter Tryd.func16, Tryd.ntmps16
  go_wp2_with (first | (go_at_call 15; first | ((with_reducible refine (HV1.out _).mono ?_); rintro e w1 ⟨rfl, hX⟩; have T := T.step hX; clear hX; obtain ⟨a0, a1, a2⟩ := T.a.cells; obtain ⟨b0, b1, b2⟩ := T.b.cells; obtain ⟨c0, c1, c2⟩ := T.c.cells; have y0 := T.c.fz 0; have y1 := T.c.fz 1; have y2 := T.c.fz 2) | ((with_reducible refine (HV2.out _).mono ?_); rintro e w1 ⟨rfl, hX⟩; have T := T.step hX; clear hX; obtain ⟨a0, a1, a2⟩ := T.a.cells; obtain ⟨b0, b1, b2⟩ := T.b.cells; obtain ⟨c0, c1, c2⟩ := T.c.cells; have y0 := T.c.fz 0; have y1 := T.c.fz 1; have y2 := T.c.fz 2)) | (go_at_call 17; (with_reducible refine (HS.out _).mono ?_); rintro e w1 ⟨rfl, hX⟩; have T := T.step hX; clear hX; obtain ⟨a0, a1, a2⟩ := T.a.cells; obtain ⟨b0, b1, b2⟩ := T.b.cells; obtain ⟨c0, c1, c2⟩ := T.c.cells; have y0 := T.c.fz 0; have y1 := T.c.fz 1; have y2 := T.c.fz 2) | (go_at_call 18; (with_reducible refine (HQ.out _).mono ?_); rintro e w1 ⟨rfl, hX⟩; have T := T.step hX; clear hX; obtain ⟨a0, a1, a2⟩ := T.a.cells; obtain ⟨b0, b1, b2⟩ := T.b.cells; obtain ⟨c0, c1, c2⟩ := T.c.cells; have y0 := T.c.fz 0; have y1 := T.c.fz 1; have y2 := T.c.fz 2))
  exact bodyPost_ret (v := .tuple #[.agg #[.bool false, .string ⟨#[]⟩, .int .i64 0], .int .i64 15]) (by simp [results, Tryd.results16, go_sem, c0, c1, c2]) rfl ⟨rfl, ((T.bel.setCell (by simp; try omega) _).setCell (by simp; try omega) _).setCell (by simp; try omega) _⟩
set_option maxRecDepth 100000 in
set_option maxHeartbeats 8000000 in
theorem ddiv_yes (g1 : Bool) (n1 : Nat) (x1 : Int) (g2 : Bool) (n2 : Nat) (x2 : Int) (w : World) (h1 : okD g1 n1 x1) (h2 : okD g2 n2 x2) (k : Nat) (hk : k = 400) (hn : 0 < n2) (hr : n1 * 10 ^ k % n2 = 0) : Calls Tryd.prog 16 #[.agg #[.bool g1, .string (S n1), .int .i64 x1], .agg #[.bool g2, .string (S n2), .int .i64 x2]] w fun e w' => e = .returned (.tuple #[.agg #[.bool (nG (g1 != g2) (n1 * 10 ^ k / n2) (x1 - x2 - 400)), .string (S (nN (n1 * 10 ^ k / n2) (x1 - x2 - 400))), .int .i64 (nX (n1 * 10 ^ k / n2) (x1 - x2 - 400))], .int .i64 (nE (n1 * 10 ^ k / n2) (x1 - x2 - 400))]) ∧ Below w.heap.size w w' := by
  obtain ⟨hs1, hx1, hx2⟩ := ok_size h1
  obtain ⟨hs2, hx3, hx4⟩ := ok_size h2
  have HT := Lib.hid (T3.new w g1 (S n1) x1 g2 (S n2) x2)
  have HV1 := Lib.hid (fun w => dvalid_ok w h1)
  have HV2 := Lib.hid (fun w => dvalid_ok w h2)
  have hN : (S (n1 * 10 ^ k)).size ≤ 520 := by have := S_pow_size (k := k) hs1; omega
  have HS := Lib.hid (fun w => shift_ok (n := n1) (k := k) 400 (by rw [hk]; rfl) w (by omega))
  have HQ := Lib.hid (fun w => quo_any (n1 * 10 ^ k) n2 w (by omega) (by omega) hn)
  have hq1 := S_less hN (Nat.div_le_self (n1 * 10 ^ k) n2)
  have ey := tl_ne (S_pos hn)
  have ey' := tl_ne' (S_pos hn)
  have er : (S (n1 * 10 ^ k % n2)).toList = [] := tl_nil (by rw [hr]; rfl)
  have HM := Lib.hid (fun w => make_any (g1 != g2) (S (n1 * 10 ^ k / n2)) (n1 * 10 ^ k / n2) (x1 - x2 - 400) w (Num_S _) (by omega) (by omega))
  obtain ⟨ra, ha⟩ : ∃ a, nG (g1 != g2) (n1 * 10 ^ k / n2) (x1 - x2 - 400) = a := ⟨_, rfl⟩
  obtain ⟨rb, hb⟩ : ∃ b, S (nN (n1 * 10 ^ k / n2) (x1 - x2 - 400)) = b := ⟨_, rfl⟩
  obtain ⟨rc, hc⟩ : ∃ c, nX (n1 * 10 ^ k / n2) (x1 - x2 - 400) = c := ⟨_, rfl⟩
  obtain ⟨rd, hd⟩ : ∃ d, nE (n1 * 10 ^ k / n2) (x1 - x2 - 400) = d := ⟨_, rfl⟩
  rw [ha, hb, hc, hd] at HM ⊢
  clear ha hb hc hd
  clear h1 h2 hr hk
  generalize S (n1 * 10 ^ k % n2) = R at *
  generalize S (n1 * 10 ^ k / n2) = Q at *
  generalize S (n1 * 10 ^ k) = A at *
  have T := HT.out
  rcases g1 with _ | _
  all_goals
    rcases g2 with _ | _
    all_goals
      simp only [bne_self_eq_false, Bool.false_bne, Bool.true_bne, Bool.not_false, Bool.not_true, Bool.bne_true, Bool.bne_false] at HM
      go_enter Tryd.func16, Tryd.ntmps16
      go_wp2_with (first | (go_at_call 15; first | ((with_reducible refine (HV1.out _).mono ?_); rintro e w1 ⟨rfl, hX⟩; have T := T.step hX; clear hX; obtain ⟨a0, a1, a2⟩ := T.a.cells; obtain ⟨b0, b1, b2⟩ := T.b.cells; obtain ⟨c0, c1, c2⟩ := T.c.cells; have y0 := T.c.fz 0; have y1 := T.c.fz 1; have y2 := T.c.fz 2) | ((with_reducible refine (HV2.out _).mono ?_); rintro e w1 ⟨rfl, hX⟩; have T := T.step hX; clear hX; obtain ⟨a0, a1, a2⟩ := T.a.cells; obtain ⟨b0, b1, b2⟩ := T.b.cells; obtain ⟨c0, c1, c2⟩ := T.c.cells; have y0 := T.c.fz 0; have y1 := T.c.fz 1; have y2 := T.c.fz 2)) | (go_at_call 17; (with_reducible refine (HS.out _).mono ?_); rintro e w1 ⟨rfl, hX⟩; have T := T.step hX; clear hX; obtain ⟨a0, a1, a2⟩ := T.a.cells; obtain ⟨b0, b1, b2⟩ := T.b.cells; obtain ⟨c0, c1, c2⟩ := T.c.cells; have y0 := T.c.fz 0; have y1 := T.c.fz 1; have y2 := T.c.fz 2) | (go_at_call 18; (with_reducible refine (HQ.out _).mono ?_); rintro e w1 ⟨rfl, hX⟩; have T := T.step hX; clear hX; obtain ⟨a0, a1, a2⟩ := T.a.cells; obtain ⟨b0, b1, b2⟩ := T.b.cells; obtain ⟨c0, c1, c2⟩ := T.c.cells; have y0 := T.c.fz 0; have y1 := T.c.fz 1; have y2 := T.c.fz 2) | (go_at_call 21; (with_reducible refine (HM.out _).mono ?_); rintro e w1 ⟨rfl, hX⟩; have T := T.step hX; clear hX; obtain ⟨a0, a1, a2⟩ := T.a.cells; obtain ⟨b0, b1, b2⟩ := T.b.cells; obtain ⟨c0, c1, c2⟩ := T.c.cells; have y0 := T.c.fz 0; have y1 := T.c.fz 1; have y2 := T.c.fz 2))
      exact bodyPost_ret (v := .tuple #[.agg #[.bool ra, .string rb, .int .i64 rc], .int .i64 rd]) (by simp [results, Tryd.results16, go_sem, c0, c1, c2]) rfl ⟨rfl, ((T.bel.setCell (by simp; try omega) _).setCell (by simp; try omega) _).setCell (by simp; try omega) _⟩
end Go.Proofs.YtjidjcnjgjmeoaaDoor.Dec
