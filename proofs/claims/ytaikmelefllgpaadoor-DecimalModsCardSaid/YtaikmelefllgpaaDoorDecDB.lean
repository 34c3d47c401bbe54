/-
  Package decimal's reference: remainders.
-/
import Derived.Test.YtaikmelefllgpaaDoorDecDA
import Derived.Test.YtaikmelefllgpaaDoorDecX
namespace Go.Proofs.YtaikmelefllgpaaDoor.Dec
open Go.RowKit
set_option linter.unusedVariables false
set_option linter.unusedSimpArgs false
open Go.Proofs.YtaikmelefllgpaaDoor.Dig

set_option maxRecDepth 100000 in
set_option maxHeartbeats 8000000 in
theorem rmod_z2 (g1 : Bool) (n1 : Nat) (g2 : Bool) (n2 : Nat) (m : Int) (k1 k2 : Nat) (w : World) (h1 : okD g1 n1 (m + k1)) (h2 : okD g2 n2 (m + k2)) (hk : k1 = 0 ∨ k2 = 0) (hn : n2 = 0) : Calls Tryd.prog 10 #[.agg #[.bool g1, .string (S n1), .int .i64 (m + (k1 : Int))], .agg #[.bool g2, .string (S n2), .int .i64 (m + (k2 : Int))]] w fun e w' => e = .returned (.tuple #[.agg #[.bool false, .string ⟨#[]⟩, .int .i64 0], .int .i64 14]) ∧ Below w.heap.size w w' := by
  obtain ⟨hs1, hx1, hx2⟩ := ok_size h1
  obtain ⟨hs2, hx3, hx4⟩ := ok_size h2
  have HT := Lib.hid (T3.new w g1 (S n1) (m + k1) g2 (S n2) (m + k2))
  have e3 : (S n2).toList = [] := tl_nil (by rw [hn]; rfl)
  clear h1 h2 hn
  have T := HT.out
  obtain ⟨a0, a1, a2⟩ := T.a.cells; obtain ⟨b0, b1, b2⟩ := T.b.cells; obtain ⟨c0, c1, c2⟩ := T.c.cells; have y0 := T.c.fz 0; have y1 := T.c.fz 1; have y2 := T.c.fz 2
  go_enter Tryd.func10, Tryd.ntmps10
  go_wp2
  exact bodyPost_ret (v := .tuple #[.agg #[.bool false, .string ⟨#[]⟩, .int .i64 0], .int .i64 14]) (by simp [results, Tryd.results10, go_sem, c0, c1, c2]) rfl ⟨rfl, T.bel⟩
set_option maxRecDepth 100000 in
set_option maxHeartbeats 8000000 in
theorem rmod_z1 (g1 : Bool) (n1 : Nat) (g2 : Bool) (n2 : Nat) (m : Int) (k1 k2 : Nat) (w : World) (h1 : okD g1 n1 (m + k1)) (h2 : okD g2 n2 (m + k2)) (hk : k1 = 0 ∨ k2 = 0) (hn : n1 = 0) (p2 : 0 < n2) : Calls Tryd.prog 10 #[.agg #[.bool g1, .string (S n1), .int .i64 (m + (k1 : Int))], .agg #[.bool g2, .string (S n2), .int .i64 (m + (k2 : Int))]] w fun e w' => e = .returned (.tuple #[.agg #[.bool g1, .string (S n1), .int .i64 (m + (k1 : Int))], .int .i64 0]) ∧ Below w.heap.size w w' := by
  obtain ⟨hs1, hx1, hx2⟩ := ok_size h1
  obtain ⟨hs2, hx3, hx4⟩ := ok_size h2
  have HT := Lib.hid (T3.new w g1 (S n1) (m + k1) g2 (S n2) (m + k2))
  have e3 := tl_ne (S_pos p2)
  have e4 := tl_ne' (S_pos p2)
  have e1 : (S n1).toList = [] := tl_nil (by rw [hn]; rfl)
  clear h1 h2 hn
  have T := HT.out
  obtain ⟨a0, a1, a2⟩ := T.a.cells; obtain ⟨b0, b1, b2⟩ := T.b.cells; obtain ⟨c0, c1, c2⟩ := T.c.cells; have y0 := T.c.fz 0; have y1 := T.c.fz 1; have y2 := T.c.fz 2
  go_enter Tryd.func10, Tryd.ntmps10
  go_wp2
  exact bodyPost_ret (v := .tuple #[.agg #[.bool g1, .string (S n1), .int .i64 (m + (k1 : Int))], .int .i64 0]) (by simp [results, Tryd.results10, go_sem, c0, c1, c2]) rfl ⟨rfl, (((Below.refl _ _).alloc (Nat.le_refl _) _).alloc (by simp) _).alloc (by simp; omega) _⟩
set_option maxRecDepth 100000 in
set_option maxHeartbeats 8000000 in
theorem rmod_r0 (g1 : Bool) (n1 : Nat) (g2 : Bool) (n2 : Nat) (m : Int) (k1 k2 : Nat) (w : World) (h1 : okD g1 n1 (m + k1)) (h2 : okD g2 n2 (m + k2)) (hk : k1 = 0 ∨ k2 = 0) (p1 : 0 < n1) (p2 : 0 < n2) (hk1 : k1 ≤ 1000) (hk2 : k2 ≤ 1000) (hm : -400 ≤ m ∧ m ≤ 400) (hr : n1 * 10 ^ k1 % (n2 * 10 ^ k2) = 0) : Calls Tryd.prog 10 #[.agg #[.bool g1, .string (S n1), .int .i64 (m + (k1 : Int))], .agg #[.bool g2, .string (S n2), .int .i64 (m + (k2 : Int))]] w fun e w' => e = .returned (.tuple #[.agg #[.bool (nG g2 (0) (m)), .string (S (nN (0) (m))), .int .i64 (nX (0) (m))], .int .i64 (nE (0) (m))]) ∧ Below w.heap.size w w' := by
  obtain ⟨hs1, hx1, hx2⟩ := ok_size h1
  obtain ⟨hs2, hx3, hx4⟩ := ok_size h2
  have HT := Lib.hid (T3.new w g1 (S n1) (m + k1) g2 (S n2) (m + k2))
  have e1 := tl_ne (S_pos p1)
  have e2 := tl_ne' (S_pos p1)
  have e3 := tl_ne (S_pos p2)
  have e4 := tl_ne' (S_pos p2)
  have HL := Lib.hid (fun w => lower_any g1 (S n1) (m + (k1 : Int)) g2 (S n2) (m + (k2 : Int)) w)
  rw [show min (m + (k1 : Int)) (m + (k2 : Int)) = m by omega] at HL
  have HA1 := Lib.hid (fun w => at_any g1 n1 m k1 w p1 hs1 hm hk1)
  have HA2 := Lib.hid (fun w => at_any g2 n2 m k2 w p2 hs2 hm hk2)
  have hA : (S (n1 * 10 ^ k1)).size ≤ 1200 := Nat.le_trans (S_pow_size (Nat.le_refl _)) (by omega)
  have hB : (S (n2 * 10 ^ k2)).size ≤ 1200 := Nat.le_trans (S_pow_size (Nat.le_refl _)) (by omega)
  have hB0 : 0 < n2 * 10 ^ k2 := Nat.mul_pos p2 (pow_pos' k2)
  have HQ := Lib.hid (fun w => rquo_any (n1 * 10 ^ k1) (n2 * 10 ^ k2) w (by omega) (by omega) hB0)
  have hrl : n1 * 10 ^ k1 % (n2 * 10 ^ k2) < n2 * 10 ^ k2 := Nat.mod_lt _ hB0
  have hRs : (S (n1 * 10 ^ k1 % (n2 * 10 ^ k2))).size ≤ 1200 := S_mono (Nat.le_of_lt hrl) hB
  rw [hr] at HQ
  have e5 : (S 0).toList = [] := tl_nil rfl
  have HM := Lib.hid (fun w => norm_any g2 (S (0)) (0) m w (Num_S _) (by decide) (by omega))
  obtain ⟨ra, ha⟩ : ∃ a, nG g2 (0) (m) = a := ⟨_, rfl⟩
  obtain ⟨rb, hb⟩ : ∃ b, S (nN (0) (m)) = b := ⟨_, rfl⟩
  obtain ⟨rc, hc⟩ : ∃ c, nX (0) (m) = c := ⟨_, rfl⟩
  obtain ⟨rd, hd⟩ : ∃ d, nE (0) (m) = d := ⟨_, rfl⟩
  rw [ha, hb, hc, hd] at HM ⊢
  clear ha hb hc hd
  clear h1 h2 hr hA hB hB0 hrl hRs
  generalize hDe : S 0 = D at *
  clear hDe
  generalize hQe : S (n1 * 10 ^ k1 / (n2 * 10 ^ k2)) = Q at *
  clear hQe
  generalize hEe : S (n2 * 10 ^ k2) = E at *
  clear hEe
  generalize hGe : S (n1 * 10 ^ k1) = G at *
  clear hGe
  have T := HT.out
  obtain ⟨a0, a1, a2⟩ := T.a.cells; obtain ⟨b0, b1, b2⟩ := T.b.cells; obtain ⟨c0, c1, c2⟩ := T.c.cells; have y0 := T.c.fz 0; have y1 := T.c.fz 1; have y2 := T.c.fz 2
  go_enter Tryd.func10, Tryd.ntmps10
  go_wp2_with (first | (go_at_call 27; (with_reducible refine (HL.out _).mono ?_); rintro e w1 ⟨rfl, hX⟩; have T := T.step hX; clear hX; obtain ⟨a0, a1, a2⟩ := T.a.cells; obtain ⟨b0, b1, b2⟩ := T.b.cells; obtain ⟨c0, c1, c2⟩ := T.c.cells; have y0 := T.c.fz 0; have y1 := T.c.fz 1; have y2 := T.c.fz 2) | (go_at_call 28; first | ((with_reducible refine (HA2.out _).mono ?_); rintro e w1 ⟨rfl, hX⟩; have T := T.step hX; clear hX; obtain ⟨a0, a1, a2⟩ := T.a.cells; obtain ⟨b0, b1, b2⟩ := T.b.cells; obtain ⟨c0, c1, c2⟩ := T.c.cells; have y0 := T.c.fz 0; have y1 := T.c.fz 1; have y2 := T.c.fz 2) | ((with_reducible refine (HA1.out _).mono ?_); rintro e w1 ⟨rfl, hX⟩; have T := T.step hX; clear hX; obtain ⟨a0, a1, a2⟩ := T.a.cells; obtain ⟨b0, b1, b2⟩ := T.b.cells; obtain ⟨c0, c1, c2⟩ := T.c.cells; have y0 := T.c.fz 0; have y1 := T.c.fz 1; have y2 := T.c.fz 2)) | (go_at_call 29; (with_reducible refine (HQ.out _).mono ?_); rintro e w1 ⟨rfl, hX⟩; have T := T.step hX; clear hX; obtain ⟨a0, a1, a2⟩ := T.a.cells; obtain ⟨b0, b1, b2⟩ := T.b.cells; obtain ⟨c0, c1, c2⟩ := T.c.cells; have y0 := T.c.fz 0; have y1 := T.c.fz 1; have y2 := T.c.fz 2) | (go_at_call 31; (with_reducible refine (HM.out _).mono ?_); rintro e w1 ⟨rfl, hX⟩; have T := T.step hX; clear hX; obtain ⟨a0, a1, a2⟩ := T.a.cells; obtain ⟨b0, b1, b2⟩ := T.b.cells; obtain ⟨c0, c1, c2⟩ := T.c.cells; have y0 := T.c.fz 0; have y1 := T.c.fz 1; have y2 := T.c.fz 2))
  exact bodyPost_ret (v := .tuple #[.agg #[.bool ra, .string rb, .int .i64 rc], .int .i64 rd]) (by simp [results, Tryd.results10, go_sem, c0, c1, c2]) rfl ⟨rfl, ((T.bel.setCell (by simp; try omega) _).setCell (by simp; try omega) _).setCell (by simp; try omega) _⟩
set_option maxRecDepth 100000 in
set_option maxHeartbeats 8000000 in
theorem rmod_rs (g1 : Bool) (n1 : Nat)  (n2 : Nat) (m : Int) (k1 k2 : Nat) (w : World) (h1 : okD g1 n1 (m + k1)) (h2 : okD g1 n2 (m + k2)) (hk : k1 = 0 ∨ k2 = 0) (p1 : 0 < n1) (p2 : 0 < n2) (hk1 : k1 ≤ 1000) (hk2 : k2 ≤ 1000) (hm : -400 ≤ m ∧ m ≤ 400) (hr : 0 < n1 * 10 ^ k1 % (n2 * 10 ^ k2)) : Calls Tryd.prog 10 #[.agg #[.bool g1, .string (S n1), .int .i64 (m + (k1 : Int))], .agg #[.bool g1, .string (S n2), .int .i64 (m + (k2 : Int))]] w fun e w' => e = .returned (.tuple #[.agg #[.bool (nG g1 (n1 * 10 ^ k1 % (n2 * 10 ^ k2)) (m)), .string (S (nN (n1 * 10 ^ k1 % (n2 * 10 ^ k2)) (m))), .int .i64 (nX (n1 * 10 ^ k1 % (n2 * 10 ^ k2)) (m))], .int .i64 (nE (n1 * 10 ^ k1 % (n2 * 10 ^ k2)) (m))]) ∧ Below w.heap.size w w' := by
  obtain ⟨hs1, hx1, hx2⟩ := ok_size h1
  obtain ⟨hs2, hx3, hx4⟩ := ok_size h2
  have HT := Lib.hid (T3.new w g1 (S n1) (m + k1) g1 (S n2) (m + k2))
  have e1 := tl_ne (S_pos p1)
  have e2 := tl_ne' (S_pos p1)
  have e3 := tl_ne (S_pos p2)
  have e4 := tl_ne' (S_pos p2)
  have HL := Lib.hid (fun w => lower_any g1 (S n1) (m + (k1 : Int)) g1 (S n2) (m + (k2 : Int)) w)
  rw [show min (m + (k1 : Int)) (m + (k2 : Int)) = m by omega] at HL
  have HA1 := Lib.hid (fun w => at_any g1 n1 m k1 w p1 hs1 hm hk1)
  have HA2 := Lib.hid (fun w => at_any g1 n2 m k2 w p2 hs2 hm hk2)
  have hA : (S (n1 * 10 ^ k1)).size ≤ 1200 := Nat.le_trans (S_pow_size (Nat.le_refl _)) (by omega)
  have hB : (S (n2 * 10 ^ k2)).size ≤ 1200 := Nat.le_trans (S_pow_size (Nat.le_refl _)) (by omega)
  have hB0 : 0 < n2 * 10 ^ k2 := Nat.mul_pos p2 (pow_pos' k2)
  have HQ := Lib.hid (fun w => rquo_any (n1 * 10 ^ k1) (n2 * 10 ^ k2) w (by omega) (by omega) hB0)
  have hrl : n1 * 10 ^ k1 % (n2 * 10 ^ k2) < n2 * 10 ^ k2 := Nat.mod_lt _ hB0
  have hRs : (S (n1 * 10 ^ k1 % (n2 * 10 ^ k2))).size ≤ 1200 := S_mono (Nat.le_of_lt hrl) hB
  have e5 := tl_ne (S_pos hr)
  have e6 := tl_ne' (S_pos hr)
  have HM := Lib.hid (fun w => norm_any g1 (S (n1 * 10 ^ k1 % (n2 * 10 ^ k2))) (n1 * 10 ^ k1 % (n2 * 10 ^ k2)) m w (Num_S _) (by omega) (by omega))
  obtain ⟨ra, ha⟩ : ∃ a, nG g1 (n1 * 10 ^ k1 % (n2 * 10 ^ k2)) (m) = a := ⟨_, rfl⟩
  obtain ⟨rb, hb⟩ : ∃ b, S (nN (n1 * 10 ^ k1 % (n2 * 10 ^ k2)) (m)) = b := ⟨_, rfl⟩
  obtain ⟨rc, hc⟩ : ∃ c, nX (n1 * 10 ^ k1 % (n2 * 10 ^ k2)) (m) = c := ⟨_, rfl⟩
  obtain ⟨rd, hd⟩ : ∃ d, nE (n1 * 10 ^ k1 % (n2 * 10 ^ k2)) (m) = d := ⟨_, rfl⟩
  rw [ha, hb, hc, hd] at HM ⊢
  clear ha hb hc hd
  clear h1 h2 hr hA hB hB0 hrl hRs
  generalize hDe : S (n1 * 10 ^ k1 % (n2 * 10 ^ k2)) = D at *
  clear hDe
  generalize hQe : S (n1 * 10 ^ k1 / (n2 * 10 ^ k2)) = Q at *
  clear hQe
  generalize hEe : S (n2 * 10 ^ k2) = E at *
  clear hEe
  generalize hGe : S (n1 * 10 ^ k1) = G at *
  clear hGe
  have T := HT.out
  obtain ⟨a0, a1, a2⟩ := T.a.cells; obtain ⟨b0, b1, b2⟩ := T.b.cells; obtain ⟨c0, c1, c2⟩ := T.c.cells; have y0 := T.c.fz 0; have y1 := T.c.fz 1; have y2 := T.c.fz 2
  go_enter Tryd.func10, Tryd.ntmps10
  go_wp2_with (first | (go_at_call 27; (with_reducible refine (HL.out _).mono ?_); rintro e w1 ⟨rfl, hX⟩; have T := T.step hX; clear hX; obtain ⟨a0, a1, a2⟩ := T.a.cells; obtain ⟨b0, b1, b2⟩ := T.b.cells; obtain ⟨c0, c1, c2⟩ := T.c.cells; have y0 := T.c.fz 0; have y1 := T.c.fz 1; have y2 := T.c.fz 2) | (go_at_call 28; first | ((with_reducible refine (HA2.out _).mono ?_); rintro e w1 ⟨rfl, hX⟩; have T := T.step hX; clear hX; obtain ⟨a0, a1, a2⟩ := T.a.cells; obtain ⟨b0, b1, b2⟩ := T.b.cells; obtain ⟨c0, c1, c2⟩ := T.c.cells; have y0 := T.c.fz 0; have y1 := T.c.fz 1; have y2 := T.c.fz 2) | ((with_reducible refine (HA1.out _).mono ?_); rintro e w1 ⟨rfl, hX⟩; have T := T.step hX; clear hX; obtain ⟨a0, a1, a2⟩ := T.a.cells; obtain ⟨b0, b1, b2⟩ := T.b.cells; obtain ⟨c0, c1, c2⟩ := T.c.cells; have y0 := T.c.fz 0; have y1 := T.c.fz 1; have y2 := T.c.fz 2)) | (go_at_call 29; (with_reducible refine (HQ.out _).mono ?_); rintro e w1 ⟨rfl, hX⟩; have T := T.step hX; clear hX; obtain ⟨a0, a1, a2⟩ := T.a.cells; obtain ⟨b0, b1, b2⟩ := T.b.cells; obtain ⟨c0, c1, c2⟩ := T.c.cells; have y0 := T.c.fz 0; have y1 := T.c.fz 1; have y2 := T.c.fz 2) | (go_at_call 31; (with_reducible refine (HM.out _).mono ?_); rintro e w1 ⟨rfl, hX⟩; have T := T.step hX; clear hX; obtain ⟨a0, a1, a2⟩ := T.a.cells; obtain ⟨b0, b1, b2⟩ := T.b.cells; obtain ⟨c0, c1, c2⟩ := T.c.cells; have y0 := T.c.fz 0; have y1 := T.c.fz 1; have y2 := T.c.fz 2))
  exact bodyPost_ret (v := .tuple #[.agg #[.bool ra, .string rb, .int .i64 rc], .int .i64 rd]) (by simp [results, Tryd.results10, go_sem, c0, c1, c2]) rfl ⟨rfl, ((T.bel.setCell (by simp; try omega) _).setCell (by simp; try omega) _).setCell (by simp; try omega) _⟩
set_option maxRecDepth 100000 in
set_option maxHeartbeats 8000000 in
theorem rmod_rd (g1 : Bool) (n1 : Nat) (g2 : Bool) (n2 : Nat) (m : Int) (k1 k2 : Nat) (w : World) (h1 : okD g1 n1 (m + k1)) (h2 : okD g2 n2 (m + k2)) (hk : k1 = 0 ∨ k2 = 0) (p1 : 0 < n1) (p2 : 0 < n2) (hk1 : k1 ≤ 1000) (hk2 : k2 ≤ 1000) (hm : -400 ≤ m ∧ m ≤ 400) (hr : 0 < n1 * 10 ^ k1 % (n2 * 10 ^ k2)) (hg : g1 = !g2) : Calls Tryd.prog 10 #[.agg #[.bool g1, .string (S n1), .int .i64 (m + (k1 : Int))], .agg #[.bool g2, .string (S n2), .int .i64 (m + (k2 : Int))]] w fun e w' => e = .returned (.tuple #[.agg #[.bool (nG g2 (n2 * 10 ^ k2 - n1 * 10 ^ k1 % (n2 * 10 ^ k2)) (m)), .string (S (nN (n2 * 10 ^ k2 - n1 * 10 ^ k1 % (n2 * 10 ^ k2)) (m))), .int .i64 (nX (n2 * 10 ^ k2 - n1 * 10 ^ k1 % (n2 * 10 ^ k2)) (m))], .int .i64 (nE (n2 * 10 ^ k2 - n1 * 10 ^ k1 % (n2 * 10 ^ k2)) (m))]) ∧ Below w.heap.size w w' := by
  obtain ⟨hs1, hx1, hx2⟩ := ok_size h1
  obtain ⟨hs2, hx3, hx4⟩ := ok_size h2
  have HT := Lib.hid (T3.new w g1 (S n1) (m + k1) g2 (S n2) (m + k2))
  have e1 := tl_ne (S_pos p1)
  have e2 := tl_ne' (S_pos p1)
  have e3 := tl_ne (S_pos p2)
  have e4 := tl_ne' (S_pos p2)
  have HL := Lib.hid (fun w => lower_any g1 (S n1) (m + (k1 : Int)) g2 (S n2) (m + (k2 : Int)) w)
  rw [show min (m + (k1 : Int)) (m + (k2 : Int)) = m by omega] at HL
  have HA1 := Lib.hid (fun w => at_any g1 n1 m k1 w p1 hs1 hm hk1)
  have HA2 := Lib.hid (fun w => at_any g2 n2 m k2 w p2 hs2 hm hk2)
  have hA : (S (n1 * 10 ^ k1)).size ≤ 1200 := Nat.le_trans (S_pow_size (Nat.le_refl _)) (by omega)
  have hB : (S (n2 * 10 ^ k2)).size ≤ 1200 := Nat.le_trans (S_pow_size (Nat.le_refl _)) (by omega)
  have hB0 : 0 < n2 * 10 ^ k2 := Nat.mul_pos p2 (pow_pos' k2)
  have HQ := Lib.hid (fun w => rquo_any (n1 * 10 ^ k1) (n2 * 10 ^ k2) w (by omega) (by omega) hB0)
  have hrl : n1 * 10 ^ k1 % (n2 * 10 ^ k2) < n2 * 10 ^ k2 := Nat.mod_lt _ hB0
  have hRs : (S (n1 * 10 ^ k1 % (n2 * 10 ^ k2))).size ≤ 1200 := S_mono (Nat.le_of_lt hrl) hB
  have e5 := tl_ne (S_pos hr)
  have e6 := tl_ne' (S_pos hr)
  have HU := Lib.hid (fun w => less_any (n2 * 10 ^ k2) (n1 * 10 ^ k1 % (n2 * 10 ^ k2)) w (by omega) (by omega) (Nat.le_of_lt hrl))
  have hVs : (S (n2 * 10 ^ k2 - n1 * 10 ^ k1 % (n2 * 10 ^ k2))).size ≤ 1200 := S_mono (Nat.sub_le _ _) hB
  have HM := Lib.hid (fun w => norm_any g2 (S (n2 * 10 ^ k2 - n1 * 10 ^ k1 % (n2 * 10 ^ k2))) (n2 * 10 ^ k2 - n1 * 10 ^ k1 % (n2 * 10 ^ k2)) m w (Num_S _) (by omega) (by omega))
  obtain ⟨ra, ha⟩ : ∃ a, nG g2 (n2 * 10 ^ k2 - n1 * 10 ^ k1 % (n2 * 10 ^ k2)) (m) = a := ⟨_, rfl⟩
  obtain ⟨rb, hb⟩ : ∃ b, S (nN (n2 * 10 ^ k2 - n1 * 10 ^ k1 % (n2 * 10 ^ k2)) (m)) = b := ⟨_, rfl⟩
  obtain ⟨rc, hc⟩ : ∃ c, nX (n2 * 10 ^ k2 - n1 * 10 ^ k1 % (n2 * 10 ^ k2)) (m) = c := ⟨_, rfl⟩
  obtain ⟨rd, hd⟩ : ∃ d, nE (n2 * 10 ^ k2 - n1 * 10 ^ k1 % (n2 * 10 ^ k2)) (m) = d := ⟨_, rfl⟩
  rw [ha, hb, hc, hd] at HM ⊢
  clear ha hb hc hd
  clear h1 h2 hr hA hB hB0 hrl hRs hVs
  generalize hCe : S (n2 * 10 ^ k2 - n1 * 10 ^ k1 % (n2 * 10 ^ k2)) = C at *
  clear hCe
  generalize hDe : S (n1 * 10 ^ k1 % (n2 * 10 ^ k2)) = D at *
  clear hDe
  generalize hQe : S (n1 * 10 ^ k1 / (n2 * 10 ^ k2)) = Q at *
  clear hQe
  generalize hEe : S (n2 * 10 ^ k2) = E at *
  clear hEe
  generalize hGe : S (n1 * 10 ^ k1) = G at *
  clear hGe
  have T := HT.out
  obtain ⟨a0, a1, a2⟩ := T.a.cells; obtain ⟨b0, b1, b2⟩ := T.b.cells; obtain ⟨c0, c1, c2⟩ := T.c.cells; have y0 := T.c.fz 0; have y1 := T.c.fz 1; have y2 := T.c.fz 2
  subst hg
  cases g2
  all_goals
    simp only [Bool.not_false, Bool.not_true] at *
    go_enter Tryd.func10, Tryd.ntmps10
    go_wp2_with (first | (go_at_call 27; (with_reducible refine (HL.out _).mono ?_); rintro e w1 ⟨rfl, hX⟩; have T := T.step hX; clear hX; obtain ⟨a0, a1, a2⟩ := T.a.cells; obtain ⟨b0, b1, b2⟩ := T.b.cells; obtain ⟨c0, c1, c2⟩ := T.c.cells; have y0 := T.c.fz 0; have y1 := T.c.fz 1; have y2 := T.c.fz 2) | (go_at_call 28; first | ((with_reducible refine (HA2.out _).mono ?_); rintro e w1 ⟨rfl, hX⟩; have T := T.step hX; clear hX; obtain ⟨a0, a1, a2⟩ := T.a.cells; obtain ⟨b0, b1, b2⟩ := T.b.cells; obtain ⟨c0, c1, c2⟩ := T.c.cells; have y0 := T.c.fz 0; have y1 := T.c.fz 1; have y2 := T.c.fz 2) | ((with_reducible refine (HA1.out _).mono ?_); rintro e w1 ⟨rfl, hX⟩; have T := T.step hX; clear hX; obtain ⟨a0, a1, a2⟩ := T.a.cells; obtain ⟨b0, b1, b2⟩ := T.b.cells; obtain ⟨c0, c1, c2⟩ := T.c.cells; have y0 := T.c.fz 0; have y1 := T.c.fz 1; have y2 := T.c.fz 2)) | (go_at_call 29; (with_reducible refine (HQ.out _).mono ?_); rintro e w1 ⟨rfl, hX⟩; have T := T.step hX; clear hX; obtain ⟨a0, a1, a2⟩ := T.a.cells; obtain ⟨b0, b1, b2⟩ := T.b.cells; obtain ⟨c0, c1, c2⟩ := T.c.cells; have y0 := T.c.fz 0; have y1 := T.c.fz 1; have y2 := T.c.fz 2) | (go_at_call 30; (with_reducible refine (HU.out _).mono ?_); rintro e w1 ⟨rfl, hX⟩; have T := T.step hX; clear hX; obtain ⟨a0, a1, a2⟩ := T.a.cells; obtain ⟨b0, b1, b2⟩ := T.b.cells; obtain ⟨c0, c1, c2⟩ := T.c.cells; have y0 := T.c.fz 0; have y1 := T.c.fz 1; have y2 := T.c.fz 2) | (go_at_call 31; (with_reducible refine (HM.out _).mono ?_); rintro e w1 ⟨rfl, hX⟩; have T := T.step hX; clear hX; obtain ⟨a0, a1, a2⟩ := T.a.cells; obtain ⟨b0, b1, b2⟩ := T.b.cells; obtain ⟨c0, c1, c2⟩ := T.c.cells; have y0 := T.c.fz 0; have y1 := T.c.fz 1; have y2 := T.c.fz 2))
    exact bodyPost_ret (v := .tuple #[.agg #[.bool ra, .string rb, .int .i64 rc], .int .i64 rd]) (by simp [results, Tryd.results10, go_sem, c0, c1, c2]) rfl ⟨rfl, ((T.bel.setCell (by simp; try omega) _).setCell (by simp; try omega) _).setCell (by simp; try omega) _⟩
theorem rdmod_core (g1 : Bool) (n1 : Nat) (g2 : Bool) (n2 : Nat) (m : Int) (k1 k2 : Nat) (w : World) (h1 : okD g1 n1 (m + k1)) (h2 : okD g2 n2 (m + k2)) (hk : k1 = 0 ∨ k2 = 0) (b1 : k1 ≤ 1000) (b2 : k2 ≤ 1000) :
    Calls Tryd.prog 10 #[.agg #[.bool g1, .string (S n1), .int .i64 (m + (k1 : Int))], .agg #[.bool g2, .string (S n2), .int .i64 (m + (k2 : Int))]] w fun e w' => e = retR (modR g1 n1 g2 n2 m k1 k2) ∧ Below w.heap.size w w' := by
  unfold modR
  rcases Nat.eq_zero_or_pos n2 with e2 | p2
  · rw [if_pos e2]
    exact rmod_z2 g1 n1 g2 n2 m k1 k2 w h1 h2 hk e2
  rw [if_neg (by omega)]
  rcases Nat.eq_zero_or_pos n1 with e1 | p1
  · rw [if_pos e1]
    have h3 := h1
    rcases h3 with ⟨-, hg, hx⟩ | ⟨h3, -⟩
    · refine (rmod_z1 g1 n1 g2 n2 m k1 k2 w h1 h2 hk e1 p2).mono fun e w' ⟨he, hb⟩ => ⟨he.trans ?_, hb⟩
      rw [e1, hg, hx]; rfl
    · omega
  rw [if_neg (by omega)]
  have hm : -400 ≤ m ∧ m ≤ 400 := by
    have := (ok_size h1).2
    have := (ok_size h2).2
    omega
  rcases Nat.eq_zero_or_pos (n1 * 10 ^ k1 % (n2 * 10 ^ k2)) with hr | hr
  · rw [if_neg (fun h => by omega), hr]
    exact (rmod_r0 g1 n1 g2 n2 m k1 k2 w h1 h2 hk p1 p2 b1 b2 hm hr).mono fun e w' ⟨he, hb⟩ => ⟨he.trans (nrm_R rfl), hb⟩
  · by_cases hg : g1 = g2
    · subst hg
      rw [if_neg (fun h => h.2 rfl)]
      exact (rmod_rs g1 n1 n2 m k1 k2 w h1 h2 hk p1 p2 b1 b2 hm hr).mono fun e w' ⟨he, hb⟩ => ⟨he.trans (nrm_R rfl), hb⟩
    · rw [if_pos ⟨hr, hg⟩]
      have hg' : g1 = !g2 := by cases g1 <;> cases g2 <;> simp_all
      exact (rmod_rd g1 n1 g2 n2 m k1 k2 w h1 h2 hk p1 p2 b1 b2 hm hr hg').mono fun e w' ⟨he, hb⟩ => ⟨he.trans (nrm_R rfl), hb⟩
/-- Two exponents as one lower one and two ways up. -/
theorem two_exps {x1 x2 : Int} (h1 : -400 ≤ x1 ∧ x1 ≤ 400) (h2 : -400 ≤ x2 ∧ x2 ≤ 400) : ∃ (m : Int) (k1 k2 : Nat), x1 = m + (k1 : Int) ∧ x2 = m + (k2 : Int) ∧ (k1 = 0 ∨ k2 = 0) ∧ k1 ≤ 1000 ∧ k2 ≤ 1000 := by
  by_cases h : x1 ≤ x2
  · exact ⟨x1, 0, (x2 - x1).toNat, by omega, by omega, .inl rfl, by omega, by omega⟩
  · exact ⟨x2, (x1 - x2).toNat, 0, by omega, by omega, .inr rfl, by omega, by omega⟩
/-- The remainder of any two decimals, on both sides the same. -/
theorem mods_both {g1 : Bool} {n1 : Nat} {x1 : Int} {g2 : Bool} {n2 : Nat} {x2 : Int} (h1 : okD g1 n1 x1) (h2 : okD g2 n2 x2) : ∃ R : Bool × Nat × Int × Int, (∀ w, Calls Tryd.prog 8 #[.agg #[.bool g1, .string (S n1), .int .i64 x1], .agg #[.bool g2, .string (S n2), .int .i64 x2]] w fun e w' => e = retR R ∧ Below w.heap.size w w') ∧ (∀ w, Calls Tryd.prog 10 #[.agg #[.bool g1, .string (S n1), .int .i64 x1], .agg #[.bool g2, .string (S n2), .int .i64 x2]] w fun e w' => e = retR R ∧ Below w.heap.size w w') := by
  obtain ⟨m, k1, k2, rfl, rfl, hk, b1, b2⟩ := two_exps (ok_size h1).2 (ok_size h2).2
  exact ⟨modR g1 n1 g2 n2 m k1 k2, fun w => dmod_core g1 n1 g2 n2 m k1 k2 w h1 h2 hk b1 b2, fun w => rdmod_core g1 n1 g2 n2 m k1 k2 w h1 h2 hk b1 b2⟩
end Go.Proofs.YtaikmelefllgpaaDoor.Dec
