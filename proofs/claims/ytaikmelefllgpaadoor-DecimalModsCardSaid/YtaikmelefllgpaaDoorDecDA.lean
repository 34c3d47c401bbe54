/-
  Package decimal: remainders.
-/
import Derived.Test.YtaikmelefllgpaaDoorDecM
namespace Go.Proofs.YtaikmelefllgpaaDoor.Dec
open Go.RowKit
set_option linter.unusedVariables false
set_option linter.unusedSimpArgs false
open Go.Proofs.YtaikmelefllgpaaDoor.Dig

theorem S_mono {a b k : Nat} (h : a ≤ b) (hb : (S b).size ≤ k) : (S a).size ≤ k := S_less hb h
set_option maxRecDepth 100000 in
set_option maxHeartbeats 8000000 in
theorem remainder_any (n y k : Nat) (z : Int) (hz : z = (k : Int)) (w : World) (hn : (S n).size ≤ 600) (hy : (S y).size ≤ 600) (hy0 : 0 < y) (hk : k = 0 ∨ (S y).size ≤ 120) (hk9 : k ≤ 100000) : Calls Tryd.prog 24 #[.string (S n), .int .i64 z, .string (S y)] w fun e w' => e = .returned (.string (S (n * 10 ^ k % y))) ∧ Below w.heap.size w w' := by
  subst hz
  have HQ0 := Lib.hid (fun w => quo_any n y w hn hy hy0)
  obtain ⟨q, hq⟩ : ∃ q, S (n / y) = q := ⟨_, rfl⟩
  have hr0 : n % y < y := Nat.mod_lt _ hy0
  obtain ⟨R, hR⟩ : ∃ R, n * 10 ^ k % y = R := ⟨_, rfl⟩
  have HI : Hid ((n % y) * 10 ^ k % y = R) := Lib.hid (by rw [← hR, Nat.mod_mul_mod])
  rw [hq] at HQ0
  rw [hR]
  have HSH := Lib.hid (fun (r s : Nat) (h : (S r).size + s ≤ 600) w => shift_ok (n := r) (k := s) (s : Int) rfl w h)
  have HQ := Lib.hid (fun (r : Nat) (h : (S r).size ≤ 600) w => quo_any r y w h hy hy0)
  have HY := Lib.hid hy0
  have HK := Lib.hid hk
  clear hR hq
  generalize n % y = r0 at *
  generalize hA : S n = A at *
  clear hA
  go_enter Tryd.func24, Tryd.ntmps24
  go_wp2_with (go_at_call 34; (with_reducible refine (HQ0.out _).mono ?_); rintro e w1 ⟨rfl, hb⟩)
  go_loopw [1, 8] (fun j r wr => ∃ (a b : Nat), j = .int .i64 a ∧ r = .string (S b) ∧ b < y ∧ Hid (b * 10 ^ a % y = R) ∧ (a = 0 ∨ (S y).size ≤ 120) ∧ a ≤ 100000 ∧ Below w.heap.size w wr) (fun j _ _ => (intOf j).toNat)
  case atStart => exact ⟨k, r0, rfl, rfl, hr0, HI, hk, hk9, hb⟩
  case round =>
    obtain ⟨a, b, rfl, rfl, hby, hI, ha, ha9, hbw⟩ := hrel
    by_cases h0 : a = 0
    · have c1 : decide ((0 : Int) < (a : Int)) = false := decide_eq_false (by omega)
      have e : b = R := by
        have h5 := hI.out
        rw [h0, Nat.pow_zero, Nat.mul_one, Nat.mod_eq_of_lt hby] at h5
        exact h5
      subst e
      go_wp2
      go_ret
      exact ⟨rfl, hbw⟩
    · have c1 : decide ((0 : Int) < (a : Int)) = true := decide_eq_true (by omega)
      have hy12 : (S y).size ≤ 120 := by rcases ha with h | h <;> omega
      have hsb : (S b).size ≤ 120 := S_mono (Nat.le_of_lt hby) hy12
      obtain ⟨s, hs⟩ : ∃ s : Nat, min a 480 = s := ⟨_, rfl⟩
      have hs1 : s ≤ 480 ∧ s ≤ a ∧ 0 < s := by omega
      have c2 : min (a : Int) 480 = (s : Int) := by omega
      obtain ⟨d, hd⟩ : ∃ d : Nat, a - s = d := ⟨_, rfl⟩
      have c3 : IntKind.i64.wrap ((a : Int) - (s : Int)) = (d : Int) := by rw [show (a : Int) - (s : Int) = (d : Int) by omega]; exact IntWalk.i64_in _ (by omega)
      have HS1 := Lib.hid (HSH.out b s (by omega))
      have hsz : (S (b * 10 ^ s)).size ≤ 600 := Nat.le_trans (S_pow_size (Nat.le_refl _)) (by omega)
      have HQ1 := Lib.hid (HQ.out (b * 10 ^ s) hsz)
      have hlt : b * 10 ^ s % y < y := Nat.mod_lt _ HY.out
      have HN : Hid (b * 10 ^ s % y * 10 ^ d % y = R) := Lib.hid (by
        rw [Nat.mod_mul_mod, Nat.mul_assoc, ← Nat.pow_add, show s + d = a by omega]
        exact hI.out)
      have hd0 : d = 0 ∨ (S y).size ≤ 120 := .inr hy12
      have hd9 : d ≤ 100000 := by omega
      have hda : d < a := by omega
      generalize b * 10 ^ s % y = c at *
      generalize hX : S (b * 10 ^ s) = X at *
      generalize hY : S (b * 10 ^ s / y) = Y at *
      clear hX hY hsz hs hd hs1 hI hsb hy12
      go_wp2_with (first | (go_at_call 23; (with_reducible refine (HS1.out _).mono ?_); rintro e w2 ⟨rfl, hX⟩; have hbw := hbw.trans (hX.mono hbw.size); clear hX) | (go_at_call 34; (with_reducible refine (HQ1.out _).mono ?_); rintro e w3 ⟨rfl, hX⟩; have hbw := hbw.trans (hX.mono hbw.size); clear hX))
      exact ⟨⟨d, c, rfl, rfl, hlt, HN, hd0, hd9, hbw⟩, by simp [intOf] <;> omega⟩
set_option maxRecDepth 100000 in
set_option maxHeartbeats 8000000 in
theorem mod_z2 (g1 : Bool) (n1 : Nat) (g2 : Bool) (n2 : Nat) (m : Int) (k1 k2 : Nat) (w : World) (h1 : okD g1 n1 (m + k1)) (h2 : okD g2 n2 (m + k2)) (hk : k1 = 0 ∨ k2 = 0) (hn : n2 = 0) : Calls Tryd.prog 8 #[.agg #[.bool g1, .string (S n1), .int .i64 (m + (k1 : Int))], .agg #[.bool g2, .string (S n2), .int .i64 (m + (k2 : Int))]] w fun e w' => e = .returned (.tuple #[.agg #[.bool false, .string ⟨#[]⟩, .int .i64 0], .int .i64 14]) ∧ Below w.heap.size w w' := by
  obtain ⟨hs1, hx1, hx2⟩ := ok_size h1
  obtain ⟨hs2, hx3, hx4⟩ := ok_size h2
  have HT := Lib.hid (T3.new w g1 (S n1) (m + k1) g2 (S n2) (m + k2))
  have hmin : min (m + (k1 : Int)) (m + (k2 : Int)) = m := by omega
  have HV1 := Lib.hid (fun w => dvalid_ok w h1)
  have HV2 := Lib.hid (fun w => dvalid_ok w h2)
  have e3 : (S n2).toList = [] := tl_nil (by rw [hn]; rfl)
  clear h1 h2 hn
  have T := HT.out
  go_enter Tryd.func8, Tryd.ntmps8
  go_wp2_with (first | (go_at_call 22; first | ((with_reducible refine (HV1.out _).mono ?_); rintro e w1 ⟨rfl, hX⟩; have T := T.step hX; clear hX; obtain ⟨a0, a1, a2⟩ := T.a.cells; obtain ⟨b0, b1, b2⟩ := T.b.cells; obtain ⟨c0, c1, c2⟩ := T.c.cells; have y0 := T.c.fz 0; have y1 := T.c.fz 1; have y2 := T.c.fz 2) | ((with_reducible refine (HV2.out _).mono ?_); rintro e w1 ⟨rfl, hX⟩; have T := T.step hX; clear hX; obtain ⟨a0, a1, a2⟩ := T.a.cells; obtain ⟨b0, b1, b2⟩ := T.b.cells; obtain ⟨c0, c1, c2⟩ := T.c.cells; have y0 := T.c.fz 0; have y1 := T.c.fz 1; have y2 := T.c.fz 2)))
  exact bodyPost_ret (v := .tuple #[.agg #[.bool false, .string ⟨#[]⟩, .int .i64 0], .int .i64 14]) (by simp [results, Tryd.results8, go_sem, c0, c1, c2]) rfl ⟨rfl, ((T.bel.setCell (by simp; try omega) _).setCell (by simp; try omega) _).setCell (by simp; try omega) _⟩
set_option maxRecDepth 100000 in
set_option maxHeartbeats 8000000 in
theorem mod_z1 (g1 : Bool) (n1 : Nat) (g2 : Bool) (n2 : Nat) (m : Int) (k1 k2 : Nat) (w : World) (h1 : okD g1 n1 (m + k1)) (h2 : okD g2 n2 (m + k2)) (hk : k1 = 0 ∨ k2 = 0) (hn : n1 = 0) (p2 : 0 < n2) : Calls Tryd.prog 8 #[.agg #[.bool g1, .string (S n1), .int .i64 (m + (k1 : Int))], .agg #[.bool g2, .string (S n2), .int .i64 (m + (k2 : Int))]] w fun e w' => e = .returned (.tuple #[.agg #[.bool false, .string ⟨#[]⟩, .int .i64 0], .int .i64 0]) ∧ Below w.heap.size w w' := by
  obtain ⟨hs1, hx1, hx2⟩ := ok_size h1
  obtain ⟨hs2, hx3, hx4⟩ := ok_size h2
  have HT := Lib.hid (T3.new w g1 (S n1) (m + k1) g2 (S n2) (m + k2))
  have hmin : min (m + (k1 : Int)) (m + (k2 : Int)) = m := by omega
  have HV1 := Lib.hid (fun w => dvalid_ok w h1)
  have HV2 := Lib.hid (fun w => dvalid_ok w h2)
  have e3 := tl_ne (S_pos p2)
  have e4 := tl_ne' (S_pos p2)
  have e1 : (S n1).toList = [] := tl_nil (by rw [hn]; rfl)
  clear h1 h2 hn
  have T := HT.out
  go_enter Tryd.func8, Tryd.ntmps8
  go_wp2_with (first | (go_at_call 22; first | ((with_reducible refine (HV1.out _).mono ?_); rintro e w1 ⟨rfl, hX⟩; have T := T.step hX; clear hX; obtain ⟨a0, a1, a2⟩ := T.a.cells; obtain ⟨b0, b1, b2⟩ := T.b.cells; obtain ⟨c0, c1, c2⟩ := T.c.cells; have y0 := T.c.fz 0; have y1 := T.c.fz 1; have y2 := T.c.fz 2) | ((with_reducible refine (HV2.out _).mono ?_); rintro e w1 ⟨rfl, hX⟩; have T := T.step hX; clear hX; obtain ⟨a0, a1, a2⟩ := T.a.cells; obtain ⟨b0, b1, b2⟩ := T.b.cells; obtain ⟨c0, c1, c2⟩ := T.c.cells; have y0 := T.c.fz 0; have y1 := T.c.fz 1; have y2 := T.c.fz 2)))
  exact bodyPost_ret (v := .tuple #[.agg #[.bool false, .string ⟨#[]⟩, .int .i64 0], .int .i64 0]) (by simp [results, Tryd.results8, go_sem, c0, c1, c2]) rfl ⟨rfl, ((T.bel.setCell (by simp; try omega) _).setCell (by simp; try omega) _).setCell (by simp; try omega) _⟩
set_option maxRecDepth 100000 in
set_option maxHeartbeats 8000000 in
theorem mod_far_s (g1 : Bool) (n1 : Nat)  (n2 : Nat) (m : Int) (k1 k2 : Nat) (w : World) (h1 : okD g1 n1 (m + k1)) (h2 : okD g1 n2 (m + k2)) (hk : k1 = 0 ∨ k2 = 0) (p1 : 0 < n1) (p2 : 0 < n2) (z1 : 600 < (S n2).size + k2) (hk9 : k2 ≤ 1000) : Calls Tryd.prog 8 #[.agg #[.bool g1, .string (S n1), .int .i64 (m + (k1 : Int))], .agg #[.bool g1, .string (S n2), .int .i64 (m + (k2 : Int))]] w fun e w' => e = .returned (.tuple #[.agg #[.bool g1, .string (S n1), .int .i64 (m + (k1 : Int))], .int .i64 0]) ∧ Below w.heap.size w w' := by
  obtain ⟨hs1, hx1, hx2⟩ := ok_size h1
  obtain ⟨hs2, hx3, hx4⟩ := ok_size h2
  have HT := Lib.hid (T3.new w g1 (S n1) (m + k1) g1 (S n2) (m + k2))
  have hmin : min (m + (k1 : Int)) (m + (k2 : Int)) = m := by omega
  have HV1 := Lib.hid (fun w => dvalid_ok w h1)
  have HV2 := Lib.hid (fun w => dvalid_ok w h2)
  have e1 := tl_ne (S_pos p1)
  have e2 := tl_ne' (S_pos p1)
  have e3 := tl_ne (S_pos p2)
  have e4 := tl_ne' (S_pos p2)
  have HS1 := Lib.hid (fun (z : Int) (hz : z = (k2 : Int)) w => shift_far (n := n2) z hz w p2 (by omega) (by omega) z1)
  clear h1 h2
  have T := HT.out
  go_enter Tryd.func8, Tryd.ntmps8
  go_wp2_with (first | (go_at_call 22; first | ((with_reducible refine (HV1.out _).mono ?_); rintro e w1 ⟨rfl, hX⟩; have T := T.step hX; clear hX; obtain ⟨a0, a1, a2⟩ := T.a.cells; obtain ⟨b0, b1, b2⟩ := T.b.cells; obtain ⟨c0, c1, c2⟩ := T.c.cells; have y0 := T.c.fz 0; have y1 := T.c.fz 1; have y2 := T.c.fz 2) | ((with_reducible refine (HV2.out _).mono ?_); rintro e w1 ⟨rfl, hX⟩; have T := T.step hX; clear hX; obtain ⟨a0, a1, a2⟩ := T.a.cells; obtain ⟨b0, b1, b2⟩ := T.b.cells; obtain ⟨c0, c1, c2⟩ := T.c.cells; have y0 := T.c.fz 0; have y1 := T.c.fz 1; have y2 := T.c.fz 2)) | (go_at_call 23; (with_reducible refine (HS1.out _ (by omega) _).mono ?_); rintro e w1 ⟨rfl, hX⟩; have T := T.step hX; clear hX; obtain ⟨a0, a1, a2⟩ := T.a.cells; obtain ⟨b0, b1, b2⟩ := T.b.cells; obtain ⟨c0, c1, c2⟩ := T.c.cells; have y0 := T.c.fz 0; have y1 := T.c.fz 1; have y2 := T.c.fz 2))
  exact bodyPost_ret (v := .tuple #[.agg #[.bool g1, .string (S n1), .int .i64 (m + (k1 : Int))], .int .i64 0]) (by simp [results, Tryd.results8, go_sem, c0, c1, c2]) rfl ⟨rfl, ((T.bel.setCell (by simp; try omega) _).setCell (by simp; try omega) _).setCell (by simp; try omega) _⟩
set_option maxRecDepth 100000 in
set_option maxHeartbeats 8000000 in
theorem mod_far_d (g1 : Bool) (n1 : Nat) (g2 : Bool) (n2 : Nat) (m : Int) (k1 k2 : Nat) (w : World) (h1 : okD g1 n1 (m + k1)) (h2 : okD g2 n2 (m + k2)) (hk : k1 = 0 ∨ k2 = 0) (hg : g1 = !g2) (p1 : 0 < n1) (p2 : 0 < n2) (z1 : 600 < (S n2).size + k2) (hk9 : k2 ≤ 1000) : Calls Tryd.prog 8 #[.agg #[.bool g1, .string (S n1), .int .i64 (m + (k1 : Int))], .agg #[.bool g2, .string (S n2), .int .i64 (m + (k2 : Int))]] w fun e w' => e = .returned (.tuple #[.agg #[.bool false, .string ⟨#[]⟩, .int .i64 0], .int .i64 2]) ∧ Below w.heap.size w w' := by
  obtain ⟨hs1, hx1, hx2⟩ := ok_size h1
  obtain ⟨hs2, hx3, hx4⟩ := ok_size h2
  have HT := Lib.hid (T3.new w g1 (S n1) (m + k1) g2 (S n2) (m + k2))
  have hmin : min (m + (k1 : Int)) (m + (k2 : Int)) = m := by omega
  have HV1 := Lib.hid (fun w => dvalid_ok w h1)
  have HV2 := Lib.hid (fun w => dvalid_ok w h2)
  have e1 := tl_ne (S_pos p1)
  have e2 := tl_ne' (S_pos p1)
  have e3 := tl_ne (S_pos p2)
  have e4 := tl_ne' (S_pos p2)
  have HS1 := Lib.hid (fun (z : Int) (hz : z = (k2 : Int)) w => shift_far (n := n2) z hz w p2 (by omega) (by omega) z1)
  clear h1 h2
  have T := HT.out
  subst hg
  cases g2
  all_goals
    simp only [Bool.not_false, Bool.not_true] at *
    go_enter Tryd.func8, Tryd.ntmps8
    go_wp2_with (first | (go_at_call 22; first | ((with_reducible refine (HV1.out _).mono ?_); rintro e w1 ⟨rfl, hX⟩; have T := T.step hX; clear hX; obtain ⟨a0, a1, a2⟩ := T.a.cells; obtain ⟨b0, b1, b2⟩ := T.b.cells; obtain ⟨c0, c1, c2⟩ := T.c.cells; have y0 := T.c.fz 0; have y1 := T.c.fz 1; have y2 := T.c.fz 2) | ((with_reducible refine (HV2.out _).mono ?_); rintro e w1 ⟨rfl, hX⟩; have T := T.step hX; clear hX; obtain ⟨a0, a1, a2⟩ := T.a.cells; obtain ⟨b0, b1, b2⟩ := T.b.cells; obtain ⟨c0, c1, c2⟩ := T.c.cells; have y0 := T.c.fz 0; have y1 := T.c.fz 1; have y2 := T.c.fz 2)) | (go_at_call 23; (with_reducible refine (HS1.out _ (by omega) _).mono ?_); rintro e w1 ⟨rfl, hX⟩; have T := T.step hX; clear hX; obtain ⟨a0, a1, a2⟩ := T.a.cells; obtain ⟨b0, b1, b2⟩ := T.b.cells; obtain ⟨c0, c1, c2⟩ := T.c.cells; have y0 := T.c.fz 0; have y1 := T.c.fz 1; have y2 := T.c.fz 2))
    exact bodyPost_ret (v := .tuple #[.agg #[.bool false, .string ⟨#[]⟩, .int .i64 0], .int .i64 2]) (by simp [results, Tryd.results8, go_sem, c0, c1, c2]) rfl ⟨rfl, ((T.bel.setCell (by simp; try omega) _).setCell (by simp; try omega) _).setCell (by simp; try omega) _⟩
set_option maxRecDepth 100000 in
set_option maxHeartbeats 8000000 in
theorem mod_r0 (g1 : Bool) (n1 : Nat) (g2 : Bool) (n2 : Nat) (m : Int) (k1 k2 : Nat) (w : World) (h1 : okD g1 n1 (m + k1)) (h2 : okD g2 n2 (m + k2)) (hk : k1 = 0 ∨ k2 = 0) (p1 : 0 < n1) (p2 : 0 < n2) (z2 : (S n2).size + k2 ≤ 600) (hk9 : k1 ≤ 1000) (hr : n1 * 10 ^ k1 % (n2 * 10 ^ k2) = 0) : Calls Tryd.prog 8 #[.agg #[.bool g1, .string (S n1), .int .i64 (m + (k1 : Int))], .agg #[.bool g2, .string (S n2), .int .i64 (m + (k2 : Int))]] w fun e w' => e = .returned (.tuple #[.agg #[.bool (nG g2 (0) (m)), .string (S (nN (0) (m))), .int .i64 (nX (0) (m))], .int .i64 (nE (0) (m))]) ∧ Below w.heap.size w w' := by
  obtain ⟨hs1, hx1, hx2⟩ := ok_size h1
  obtain ⟨hs2, hx3, hx4⟩ := ok_size h2
  have HT := Lib.hid (T3.new w g1 (S n1) (m + k1) g2 (S n2) (m + k2))
  have hmin : min (m + (k1 : Int)) (m + (k2 : Int)) = m := by omega
  have HV1 := Lib.hid (fun w => dvalid_ok w h1)
  have HV2 := Lib.hid (fun w => dvalid_ok w h2)
  have e1 := tl_ne (S_pos p1)
  have e2 := tl_ne' (S_pos p1)
  have e3 := tl_ne (S_pos p2)
  have e4 := tl_ne' (S_pos p2)
  have HS2 := Lib.hid (fun (z : Int) (hz : z = (k2 : Int)) w => shift_ok (n := n2) z hz w z2)
  have hB : (S (n2 * 10 ^ k2)).size ≤ 600 := Nat.le_trans (S_pow_size (Nat.le_refl _)) z2
  have hB0 : 0 < n2 * 10 ^ k2 := Nat.mul_pos p2 (pow_pos' k2)
  have hB1 : k1 = 0 ∨ (S (n2 * 10 ^ k2)).size ≤ 120 := by
    rcases hk with h | h
    · exact .inl h
    · refine .inr ?_
      rw [h, Nat.pow_zero, Nat.mul_one]; omega
  have HRM := Lib.hid (fun (z : Int) (hz : z = (k1 : Int)) w => remainder_any n1 (n2 * 10 ^ k2) k1 z hz w (by omega) hB hB0 hB1 (by omega))
  have hrl : n1 * 10 ^ k1 % (n2 * 10 ^ k2) < n2 * 10 ^ k2 := Nat.mod_lt _ hB0
  have hRs : (S (n1 * 10 ^ k1 % (n2 * 10 ^ k2))).size ≤ 600 := S_mono (Nat.le_of_lt hrl) hB
  rw [hr] at HRM
  have e5 : (S 0).toList = [] := tl_nil rfl
  have HM := Lib.hid (fun w => make_any g2 (S (0)) (0) m w (Num_S _) (by decide) (by omega))
  obtain ⟨ra, ha⟩ : ∃ a, nG g2 (0) (m) = a := ⟨_, rfl⟩
  obtain ⟨rb, hb⟩ : ∃ b, S (nN (0) (m)) = b := ⟨_, rfl⟩
  obtain ⟨rc, hc⟩ : ∃ c, nX (0) (m) = c := ⟨_, rfl⟩
  obtain ⟨rd, hd⟩ : ∃ d, nE (0) (m) = d := ⟨_, rfl⟩
  rw [ha, hb, hc, hd] at HM ⊢
  clear ha hb hc hd
  clear h1 h2 hr hB hB0 hB1 hrl hRs
  generalize hDe : S 0 = D at *
  clear hDe
  generalize hEe : S (n2 * 10 ^ k2) = E at *
  clear hEe
  have T := HT.out
  go_enter Tryd.func8, Tryd.ntmps8
  go_wp2_with (first | (go_at_call 22; first | ((with_reducible refine (HV1.out _).mono ?_); rintro e w1 ⟨rfl, hX⟩; have T := T.step hX; clear hX; obtain ⟨a0, a1, a2⟩ := T.a.cells; obtain ⟨b0, b1, b2⟩ := T.b.cells; obtain ⟨c0, c1, c2⟩ := T.c.cells; have y0 := T.c.fz 0; have y1 := T.c.fz 1; have y2 := T.c.fz 2) | ((with_reducible refine (HV2.out _).mono ?_); rintro e w1 ⟨rfl, hX⟩; have T := T.step hX; clear hX; obtain ⟨a0, a1, a2⟩ := T.a.cells; obtain ⟨b0, b1, b2⟩ := T.b.cells; obtain ⟨c0, c1, c2⟩ := T.c.cells; have y0 := T.c.fz 0; have y1 := T.c.fz 1; have y2 := T.c.fz 2)) | (go_at_call 23; (with_reducible refine (HS2.out _ (by omega) _).mono ?_); rintro e w1 ⟨rfl, hX⟩; have T := T.step hX; clear hX; obtain ⟨a0, a1, a2⟩ := T.a.cells; obtain ⟨b0, b1, b2⟩ := T.b.cells; obtain ⟨c0, c1, c2⟩ := T.c.cells; have y0 := T.c.fz 0; have y1 := T.c.fz 1; have y2 := T.c.fz 2) | (go_at_call 24; (with_reducible refine (HRM.out _ (by omega) _).mono ?_); rintro e w1 ⟨rfl, hX⟩; have T := T.step hX; clear hX; obtain ⟨a0, a1, a2⟩ := T.a.cells; obtain ⟨b0, b1, b2⟩ := T.b.cells; obtain ⟨c0, c1, c2⟩ := T.c.cells; have y0 := T.c.fz 0; have y1 := T.c.fz 1; have y2 := T.c.fz 2) | (go_at_call 26; (with_reducible refine (HM.out _).mono ?_); rintro e w1 ⟨rfl, hX⟩; have T := T.step hX; clear hX; obtain ⟨a0, a1, a2⟩ := T.a.cells; obtain ⟨b0, b1, b2⟩ := T.b.cells; obtain ⟨c0, c1, c2⟩ := T.c.cells; have y0 := T.c.fz 0; have y1 := T.c.fz 1; have y2 := T.c.fz 2))
  exact bodyPost_ret (v := .tuple #[.agg #[.bool ra, .string rb, .int .i64 rc], .int .i64 rd]) (by simp [results, Tryd.results8, go_sem, c0, c1, c2]) rfl ⟨rfl, ((T.bel.setCell (by simp; try omega) _).setCell (by simp; try omega) _).setCell (by simp; try omega) _⟩
set_option maxRecDepth 100000 in
set_option maxHeartbeats 8000000 in
theorem mod_rs (g1 : Bool) (n1 : Nat)  (n2 : Nat) (m : Int) (k1 k2 : Nat) (w : World) (h1 : okD g1 n1 (m + k1)) (h2 : okD g1 n2 (m + k2)) (hk : k1 = 0 ∨ k2 = 0) (p1 : 0 < n1) (p2 : 0 < n2) (z2 : (S n2).size + k2 ≤ 600) (hk9 : k1 ≤ 1000) (hr : 0 < n1 * 10 ^ k1 % (n2 * 10 ^ k2)) : Calls Tryd.prog 8 #[.agg #[.bool g1, .string (S n1), .int .i64 (m + (k1 : Int))], .agg #[.bool g1, .string (S n2), .int .i64 (m + (k2 : Int))]] w fun e w' => e = .returned (.tuple #[.agg #[.bool (nG g1 (n1 * 10 ^ k1 % (n2 * 10 ^ k2)) (m)), .string (S (nN (n1 * 10 ^ k1 % (n2 * 10 ^ k2)) (m))), .int .i64 (nX (n1 * 10 ^ k1 % (n2 * 10 ^ k2)) (m))], .int .i64 (nE (n1 * 10 ^ k1 % (n2 * 10 ^ k2)) (m))]) ∧ Below w.heap.size w w' := by
  obtain ⟨hs1, hx1, hx2⟩ := ok_size h1
  obtain ⟨hs2, hx3, hx4⟩ := ok_size h2
  have HT := Lib.hid (T3.new w g1 (S n1) (m + k1) g1 (S n2) (m + k2))
  have hmin : min (m + (k1 : Int)) (m + (k2 : Int)) = m := by omega
  have HV1 := Lib.hid (fun w => dvalid_ok w h1)
  have HV2 := Lib.hid (fun w => dvalid_ok w h2)
  have e1 := tl_ne (S_pos p1)
  have e2 := tl_ne' (S_pos p1)
  have e3 := tl_ne (S_pos p2)
  have e4 := tl_ne' (S_pos p2)
  have HS2 := Lib.hid (fun (z : Int) (hz : z = (k2 : Int)) w => shift_ok (n := n2) z hz w z2)
  have hB : (S (n2 * 10 ^ k2)).size ≤ 600 := Nat.le_trans (S_pow_size (Nat.le_refl _)) z2
  have hB0 : 0 < n2 * 10 ^ k2 := Nat.mul_pos p2 (pow_pos' k2)
  have hB1 : k1 = 0 ∨ (S (n2 * 10 ^ k2)).size ≤ 120 := by
    rcases hk with h | h
    · exact .inl h
    · refine .inr ?_
      rw [h, Nat.pow_zero, Nat.mul_one]; omega
  have HRM := Lib.hid (fun (z : Int) (hz : z = (k1 : Int)) w => remainder_any n1 (n2 * 10 ^ k2) k1 z hz w (by omega) hB hB0 hB1 (by omega))
  have hrl : n1 * 10 ^ k1 % (n2 * 10 ^ k2) < n2 * 10 ^ k2 := Nat.mod_lt _ hB0
  have hRs : (S (n1 * 10 ^ k1 % (n2 * 10 ^ k2))).size ≤ 600 := S_mono (Nat.le_of_lt hrl) hB
  have e5 := tl_ne (S_pos hr)
  have e6 := tl_ne' (S_pos hr)
  have HM := Lib.hid (fun w => make_any g1 (S (n1 * 10 ^ k1 % (n2 * 10 ^ k2))) (n1 * 10 ^ k1 % (n2 * 10 ^ k2)) m w (Num_S _) (by omega) (by omega))
  obtain ⟨ra, ha⟩ : ∃ a, nG g1 (n1 * 10 ^ k1 % (n2 * 10 ^ k2)) (m) = a := ⟨_, rfl⟩
  obtain ⟨rb, hb⟩ : ∃ b, S (nN (n1 * 10 ^ k1 % (n2 * 10 ^ k2)) (m)) = b := ⟨_, rfl⟩
  obtain ⟨rc, hc⟩ : ∃ c, nX (n1 * 10 ^ k1 % (n2 * 10 ^ k2)) (m) = c := ⟨_, rfl⟩
  obtain ⟨rd, hd⟩ : ∃ d, nE (n1 * 10 ^ k1 % (n2 * 10 ^ k2)) (m) = d := ⟨_, rfl⟩
  rw [ha, hb, hc, hd] at HM ⊢
  clear ha hb hc hd
  clear h1 h2 hr hB hB0 hB1 hrl hRs
  generalize hDe : S (n1 * 10 ^ k1 % (n2 * 10 ^ k2)) = D at *
  clear hDe
  generalize hEe : S (n2 * 10 ^ k2) = E at *
  clear hEe
  have T := HT.out
  go_enter Tryd.func8, Tryd.ntmps8
  go_wp2_with (first | (go_at_call 22; first | ((with_reducible refine (HV1.out _).mono ?_); rintro e w1 ⟨rfl, hX⟩; have T := T.step hX; clear hX; obtain ⟨a0, a1, a2⟩ := T.a.cells; obtain ⟨b0, b1, b2⟩ := T.b.cells; obtain ⟨c0, c1, c2⟩ := T.c.cells; have y0 := T.c.fz 0; have y1 := T.c.fz 1; have y2 := T.c.fz 2) | ((with_reducible refine (HV2.out _).mono ?_); rintro e w1 ⟨rfl, hX⟩; have T := T.step hX; clear hX; obtain ⟨a0, a1, a2⟩ := T.a.cells; obtain ⟨b0, b1, b2⟩ := T.b.cells; obtain ⟨c0, c1, c2⟩ := T.c.cells; have y0 := T.c.fz 0; have y1 := T.c.fz 1; have y2 := T.c.fz 2)) | (go_at_call 23; (with_reducible refine (HS2.out _ (by omega) _).mono ?_); rintro e w1 ⟨rfl, hX⟩; have T := T.step hX; clear hX; obtain ⟨a0, a1, a2⟩ := T.a.cells; obtain ⟨b0, b1, b2⟩ := T.b.cells; obtain ⟨c0, c1, c2⟩ := T.c.cells; have y0 := T.c.fz 0; have y1 := T.c.fz 1; have y2 := T.c.fz 2) | (go_at_call 24; (with_reducible refine (HRM.out _ (by omega) _).mono ?_); rintro e w1 ⟨rfl, hX⟩; have T := T.step hX; clear hX; obtain ⟨a0, a1, a2⟩ := T.a.cells; obtain ⟨b0, b1, b2⟩ := T.b.cells; obtain ⟨c0, c1, c2⟩ := T.c.cells; have y0 := T.c.fz 0; have y1 := T.c.fz 1; have y2 := T.c.fz 2) | (go_at_call 26; (with_reducible refine (HM.out _).mono ?_); rintro e w1 ⟨rfl, hX⟩; have T := T.step hX; clear hX; obtain ⟨a0, a1, a2⟩ := T.a.cells; obtain ⟨b0, b1, b2⟩ := T.b.cells; obtain ⟨c0, c1, c2⟩ := T.c.cells; have y0 := T.c.fz 0; have y1 := T.c.fz 1; have y2 := T.c.fz 2))
  exact bodyPost_ret (v := .tuple #[.agg #[.bool ra, .string rb, .int .i64 rc], .int .i64 rd]) (by simp [results, Tryd.results8, go_sem, c0, c1, c2]) rfl ⟨rfl, ((T.bel.setCell (by simp; try omega) _).setCell (by simp; try omega) _).setCell (by simp; try omega) _⟩
set_option maxRecDepth 100000 in
set_option maxHeartbeats 8000000 in
theorem mod_rd (g1 : Bool) (n1 : Nat) (g2 : Bool) (n2 : Nat) (m : Int) (k1 k2 : Nat) (w : World) (h1 : okD g1 n1 (m + k1)) (h2 : okD g2 n2 (m + k2)) (hk : k1 = 0 ∨ k2 = 0) (p1 : 0 < n1) (p2 : 0 < n2) (z2 : (S n2).size + k2 ≤ 600) (hk9 : k1 ≤ 1000) (hr : 0 < n1 * 10 ^ k1 % (n2 * 10 ^ k2)) (hg : g1 = !g2) : Calls Tryd.prog 8 #[.agg #[.bool g1, .string (S n1), .int .i64 (m + (k1 : Int))], .agg #[.bool g2, .string (S n2), .int .i64 (m + (k2 : Int))]] w fun e w' => e = .returned (.tuple #[.agg #[.bool (nG g2 (n2 * 10 ^ k2 - n1 * 10 ^ k1 % (n2 * 10 ^ k2)) (m)), .string (S (nN (n2 * 10 ^ k2 - n1 * 10 ^ k1 % (n2 * 10 ^ k2)) (m))), .int .i64 (nX (n2 * 10 ^ k2 - n1 * 10 ^ k1 % (n2 * 10 ^ k2)) (m))], .int .i64 (nE (n2 * 10 ^ k2 - n1 * 10 ^ k1 % (n2 * 10 ^ k2)) (m))]) ∧ Below w.heap.size w w' := by
  obtain ⟨hs1, hx1, hx2⟩ := ok_size h1
  obtain ⟨hs2, hx3, hx4⟩ := ok_size h2
  have HT := Lib.hid (T3.new w g1 (S n1) (m + k1) g2 (S n2) (m + k2))
  have hmin : min (m + (k1 : Int)) (m + (k2 : Int)) = m := by omega
  have HV1 := Lib.hid (fun w => dvalid_ok w h1)
  have HV2 := Lib.hid (fun w => dvalid_ok w h2)
  have e1 := tl_ne (S_pos p1)
  have e2 := tl_ne' (S_pos p1)
  have e3 := tl_ne (S_pos p2)
  have e4 := tl_ne' (S_pos p2)
  have HS2 := Lib.hid (fun (z : Int) (hz : z = (k2 : Int)) w => shift_ok (n := n2) z hz w z2)
  have hB : (S (n2 * 10 ^ k2)).size ≤ 600 := Nat.le_trans (S_pow_size (Nat.le_refl _)) z2
  have hB0 : 0 < n2 * 10 ^ k2 := Nat.mul_pos p2 (pow_pos' k2)
  have hB1 : k1 = 0 ∨ (S (n2 * 10 ^ k2)).size ≤ 120 := by
    rcases hk with h | h
    · exact .inl h
    · refine .inr ?_
      rw [h, Nat.pow_zero, Nat.mul_one]; omega
  have HRM := Lib.hid (fun (z : Int) (hz : z = (k1 : Int)) w => remainder_any n1 (n2 * 10 ^ k2) k1 z hz w (by omega) hB hB0 hB1 (by omega))
  have hrl : n1 * 10 ^ k1 % (n2 * 10 ^ k2) < n2 * 10 ^ k2 := Nat.mod_lt _ hB0
  have hRs : (S (n1 * 10 ^ k1 % (n2 * 10 ^ k2))).size ≤ 600 := S_mono (Nat.le_of_lt hrl) hB
  have e5 := tl_ne (S_pos hr)
  have e6 := tl_ne' (S_pos hr)
  have HU := Lib.hid (fun w => sub_any (n2 * 10 ^ k2) (n1 * 10 ^ k1 % (n2 * 10 ^ k2)) w hB hRs)
  rw [subE_0 (Nat.le_of_lt hrl)] at HU
  have hVs : (S (n2 * 10 ^ k2 - n1 * 10 ^ k1 % (n2 * 10 ^ k2))).size ≤ 600 := S_mono (Nat.sub_le _ _) hB
  have HM := Lib.hid (fun w => make_any g2 (S (n2 * 10 ^ k2 - n1 * 10 ^ k1 % (n2 * 10 ^ k2))) (n2 * 10 ^ k2 - n1 * 10 ^ k1 % (n2 * 10 ^ k2)) m w (Num_S _) (by omega) (by omega))
  obtain ⟨ra, ha⟩ : ∃ a, nG g2 (n2 * 10 ^ k2 - n1 * 10 ^ k1 % (n2 * 10 ^ k2)) (m) = a := ⟨_, rfl⟩
  obtain ⟨rb, hb⟩ : ∃ b, S (nN (n2 * 10 ^ k2 - n1 * 10 ^ k1 % (n2 * 10 ^ k2)) (m)) = b := ⟨_, rfl⟩
  obtain ⟨rc, hc⟩ : ∃ c, nX (n2 * 10 ^ k2 - n1 * 10 ^ k1 % (n2 * 10 ^ k2)) (m) = c := ⟨_, rfl⟩
  obtain ⟨rd, hd⟩ : ∃ d, nE (n2 * 10 ^ k2 - n1 * 10 ^ k1 % (n2 * 10 ^ k2)) (m) = d := ⟨_, rfl⟩
  rw [ha, hb, hc, hd] at HM ⊢
  clear ha hb hc hd
  clear h1 h2 hr hB hB0 hB1 hrl hRs hVs
  generalize hCe : S (n2 * 10 ^ k2 - n1 * 10 ^ k1 % (n2 * 10 ^ k2)) = C at *
  clear hCe
  generalize hDe : S (n1 * 10 ^ k1 % (n2 * 10 ^ k2)) = D at *
  clear hDe
  generalize hEe : S (n2 * 10 ^ k2) = E at *
  clear hEe
  have T := HT.out
  subst hg
  cases g2
  all_goals
    simp only [Bool.not_false, Bool.not_true] at *
    go_enter Tryd.func8, Tryd.ntmps8
    go_wp2_with (first | (go_at_call 22; first | ((with_reducible refine (HV1.out _).mono ?_); rintro e w1 ⟨rfl, hX⟩; have T := T.step hX; clear hX; obtain ⟨a0, a1, a2⟩ := T.a.cells; obtain ⟨b0, b1, b2⟩ := T.b.cells; obtain ⟨c0, c1, c2⟩ := T.c.cells; have y0 := T.c.fz 0; have y1 := T.c.fz 1; have y2 := T.c.fz 2) | ((with_reducible refine (HV2.out _).mono ?_); rintro e w1 ⟨rfl, hX⟩; have T := T.step hX; clear hX; obtain ⟨a0, a1, a2⟩ := T.a.cells; obtain ⟨b0, b1, b2⟩ := T.b.cells; obtain ⟨c0, c1, c2⟩ := T.c.cells; have y0 := T.c.fz 0; have y1 := T.c.fz 1; have y2 := T.c.fz 2)) | (go_at_call 23; (with_reducible refine (HS2.out _ (by omega) _).mono ?_); rintro e w1 ⟨rfl, hX⟩; have T := T.step hX; clear hX; obtain ⟨a0, a1, a2⟩ := T.a.cells; obtain ⟨b0, b1, b2⟩ := T.b.cells; obtain ⟨c0, c1, c2⟩ := T.c.cells; have y0 := T.c.fz 0; have y1 := T.c.fz 1; have y2 := T.c.fz 2) | (go_at_call 24; (with_reducible refine (HRM.out _ (by omega) _).mono ?_); rintro e w1 ⟨rfl, hX⟩; have T := T.step hX; clear hX; obtain ⟨a0, a1, a2⟩ := T.a.cells; obtain ⟨b0, b1, b2⟩ := T.b.cells; obtain ⟨c0, c1, c2⟩ := T.c.cells; have y0 := T.c.fz 0; have y1 := T.c.fz 1; have y2 := T.c.fz 2) | (go_at_call 25; (with_reducible refine (HU.out _).mono ?_); rintro e w1 ⟨rfl, hX⟩; have T := T.step hX; clear hX; obtain ⟨a0, a1, a2⟩ := T.a.cells; obtain ⟨b0, b1, b2⟩ := T.b.cells; obtain ⟨c0, c1, c2⟩ := T.c.cells; have y0 := T.c.fz 0; have y1 := T.c.fz 1; have y2 := T.c.fz 2) | (go_at_call 26; (with_reducible refine (HM.out _).mono ?_); rintro e w1 ⟨rfl, hX⟩; have T := T.step hX; clear hX; obtain ⟨a0, a1, a2⟩ := T.a.cells; obtain ⟨b0, b1, b2⟩ := T.b.cells; obtain ⟨c0, c1, c2⟩ := T.c.cells; have y0 := T.c.fz 0; have y1 := T.c.fz 1; have y2 := T.c.fz 2))
    exact bodyPost_ret (v := .tuple #[.agg #[.bool ra, .string rb, .int .i64 rc], .int .i64 rd]) (by simp [results, Tryd.results8, go_sem, c0, c1, c2]) rfl ⟨rfl, ((T.bel.setCell (by simp; try omega) _).setCell (by simp; try omega) _).setCell (by simp; try omega) _⟩
def modR (g1 : Bool) (n1 : Nat) (g2 : Bool) (n2 : Nat) (m : Int) (k1 k2 : Nat) : Bool × Nat × Int × Int :=
  if n2 = 0 then (false, 0, 0, 14) else if n1 = 0 then (false, 0, 0, 0)
  else nrm g2 (if 0 < n1 * 10 ^ k1 % (n2 * 10 ^ k2) ∧ g1 ≠ g2 then n2 * 10 ^ k2 - n1 * 10 ^ k1 % (n2 * 10 ^ k2) else n1 * 10 ^ k1 % (n2 * 10 ^ k2)) m
theorem dmod_core (g1 : Bool) (n1 : Nat) (g2 : Bool) (n2 : Nat) (m : Int) (k1 k2 : Nat) (w : World) (h1 : okD g1 n1 (m + k1)) (h2 : okD g2 n2 (m + k2)) (hk : k1 = 0 ∨ k2 = 0) (b1 : k1 ≤ 1000) (b2 : k2 ≤ 1000) :
    Calls Tryd.prog 8 #[.agg #[.bool g1, .string (S n1), .int .i64 (m + (k1 : Int))], .agg #[.bool g2, .string (S n2), .int .i64 (m + (k2 : Int))]] w fun e w' => e = retR (modR g1 n1 g2 n2 m k1 k2) ∧ Below w.heap.size w w' := by
  unfold modR
  rcases Nat.eq_zero_or_pos n2 with e2 | p2
  · rw [if_pos e2]
    exact mod_z2 g1 n1 g2 n2 m k1 k2 w h1 h2 hk e2
  rw [if_neg (by omega)]
  rcases Nat.eq_zero_or_pos n1 with e1 | p1
  · rw [if_pos e1]
    exact mod_z1 g1 n1 g2 n2 m k1 k2 w h1 h2 hk e1 p2
  rw [if_neg (by omega)]
  obtain ⟨z1, l1⟩ := ok_parts h1 p1
  obtain ⟨z2, l2⟩ := ok_parts h2 p2
  by_cases f2 : 600 < (S n2).size + k2
  · have hk2 : 0 < k2 := by rw [S_size] at f2; omega
    obtain rfl : k1 = 0 := by omega
    have f3 := f2
    rw [S_size] at f3
    have hlt := far_lt (b := n1) p2 l1 f3
    rw [Nat.pow_zero, Nat.mul_one, Nat.mod_eq_of_lt hlt]
    by_cases hg : g1 = g2
    · subst hg
      rw [if_neg (fun h => h.2 rfl)]
      have h3 := nrm_ok h1
      refine (mod_far_s g1 n1 n2 m 0 k2 w h1 h2 hk p1 p2 f2 b2).mono fun e w' ⟨he, hb⟩ => ⟨he.trans ?_, hb⟩
      have h4 : nrm g1 n1 m = (g1, n1, m + ((0 : Nat) : Int), 0) := by
        have : m + ((0 : Nat) : Int) = m := by omega
        rw [this] at h3 ⊢
        exact h3
      rw [h4]; rfl
    · rw [if_pos ⟨p1, hg⟩]
      have hg' : g1 = !g2 := by cases g1 <;> cases g2 <;> simp_all
      refine (mod_far_d g1 n1 g2 n2 m 0 k2 w h1 h2 hk hg' p1 p2 f2 b2).mono fun e w' ⟨he, hb⟩ => ⟨he.trans (err_R ?_), hb⟩
      exact nrm_no (by omega) (far_less m p2 p1 z1 l1 f3 hk2)
  · rcases Nat.eq_zero_or_pos (n1 * 10 ^ k1 % (n2 * 10 ^ k2)) with hr | hr
    · rw [if_neg (fun h => by omega), hr]
      exact (mod_r0 g1 n1 g2 n2 m k1 k2 w h1 h2 hk p1 p2 (by omega) b1 hr).mono fun e w' ⟨he, hb⟩ => ⟨he.trans (nrm_R rfl), hb⟩
    · by_cases hg : g1 = g2
      · subst hg
        rw [if_neg (fun h => h.2 rfl)]
        exact (mod_rs g1 n1 n2 m k1 k2 w h1 h2 hk p1 p2 (by omega) b1 hr).mono fun e w' ⟨he, hb⟩ => ⟨he.trans (nrm_R rfl), hb⟩
      · rw [if_pos ⟨hr, hg⟩]
        have hg' : g1 = !g2 := by cases g1 <;> cases g2 <;> simp_all
        exact (mod_rd g1 n1 g2 n2 m k1 k2 w h1 h2 hk p1 p2 (by omega) b1 hr hg').mono fun e w' ⟨he, hb⟩ => ⟨he.trans (nrm_R rfl), hb⟩
end Go.Proofs.YtaikmelefllgpaaDoor.Dec
