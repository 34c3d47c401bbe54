/-
  Contracts of package decimal: sums.
-/
import Derived.Test.YtjidjcnjgjmeoaaDoorDecI
namespace Go.Proofs.YtjidjcnjgjmeoaaDoor.Dec
open Go.RowKit
set_option linter.unusedVariables false
set_option linter.unusedSimpArgs false
open Go.Proofs.YtjidjcnjgjmeoaaDoor.Dig

theorem T3.neg {w W : World} {g1 g2 : Bool} {s1 s2 : ByteArray} {x1 x2 : Int} (h : T3 w W g1 s1 x1 g2 s2 x2) (g : Bool) : T3 w (W.setCell ⟨w.heap.size, 0, none⟩ (.bool g)) g s1 x1 g2 s2 x2 := by
  have blk : ∀ k, k ≠ w.heap.size → (W.setCell ⟨w.heap.size, 0, none⟩ (.bool g)).heap[k]? = W.heap[k]? := fun k hk => by
    rw [Below.heap_setCell _ _ _ _ hk]
  refine ⟨?_, World.rowIs.of_block h.b (blk _ (by omega)), World.rowIs.of_block h.c (blk _ (by omega)), h.bel.setCell (by simp) _⟩
  exact (World.rowIs.set h.a 0 _).congr fun i hi => by
    rcases (show i = 0 ∨ i = 1 ∨ i = 2 by omega) with rfl | rfl | rfl <;> rfl
theorem subE_0 {a b : Nat} (h : b ≤ a) : subE a b = 0 := by unfold subE; rw [if_neg (by omega)]
set_option maxRecDepth 100000 in
set_option maxHeartbeats 8000000 in
theorem dadd_z1 (g1 : Bool) (n1 : Nat) (g2 : Bool) (n2 : Nat) (m : Int) (k1 k2 : Nat) (w : World) (h1 : okD g1 n1 (m + k1)) (h2 : okD g2 n2 (m + k2)) (hk : k1 = 0 ∨ k2 = 0) (hn : n1 = 0) : Calls Tryd.prog 13 #[.agg #[.bool g1, .string (S n1), .int .i64 (m + (k1 : Int))], .agg #[.bool g2, .string (S n2), .int .i64 (m + (k2 : Int))]] w fun e w' => e = .returned (.tuple #[.agg #[.bool g2, .string (S n2), .int .i64 (m + (k2 : Int))], .int .i64 0]) ∧ Below w.heap.size w w' := by
  obtain ⟨hs1, hx1, hx2⟩ := ok_size h1
  obtain ⟨hs2, hx3, hx4⟩ := ok_size h2
  have HT := Lib.hid (T3.new w g1 (S n1) (m + k1) g2 (S n2) (m + k2))
  have hmin : min (m + (k1 : Int)) (m + (k2 : Int)) = m := by omega
  have HV1 := Lib.hid (fun w => dvalid_ok w h1)
  have HV2 := Lib.hid (fun w => dvalid_ok w h2)
  have e1 : (S n1).toList = [] := tl_nil (by rw [hn]; rfl)
  clear h1 h2 hn
  have T := HT.out
  go_enter Tryd.func13, Tryd.ntmps13
  go_wp2_with (first | (go_at_call 15; first | ((with_reducible refine (HV1.out _).mono ?_); rintro e w1 ⟨rfl, hX⟩; have T := T.step hX; clear hX; obtain ⟨a0, a1, a2⟩ := T.a.cells; obtain ⟨b0, b1, b2⟩ := T.b.cells; obtain ⟨c0, c1, c2⟩ := T.c.cells; have y0 := T.c.fz 0; have y1 := T.c.fz 1; have y2 := T.c.fz 2) | ((with_reducible refine (HV2.out _).mono ?_); rintro e w1 ⟨rfl, hX⟩; have T := T.step hX; clear hX; obtain ⟨a0, a1, a2⟩ := T.a.cells; obtain ⟨b0, b1, b2⟩ := T.b.cells; obtain ⟨c0, c1, c2⟩ := T.c.cells; have y0 := T.c.fz 0; have y1 := T.c.fz 1; have y2 := T.c.fz 2)))
  exact bodyPost_ret (v := .tuple #[.agg #[.bool g2, .string (S n2), .int .i64 (m + (k2 : Int))], .int .i64 0]) (by simp [results, Tryd.results13, go_sem, c0, c1, c2]) rfl ⟨rfl, ((T.bel.setCell (by simp; try omega) _).setCell (by simp; try omega) _).setCell (by simp; try omega) _⟩
set_option maxRecDepth 100000 in
set_option maxHeartbeats 8000000 in
theorem dadd_z2 (g1 : Bool) (n1 : Nat) (g2 : Bool) (n2 : Nat) (m : Int) (k1 k2 : Nat) (w : World) (h1 : okD g1 n1 (m + k1)) (h2 : okD g2 n2 (m + k2)) (hk : k1 = 0 ∨ k2 = 0) (hn : n2 = 0) (p1 : 0 < n1) : Calls Tryd.prog 13 #[.agg #[.bool g1, .string (S n1), .int .i64 (m + (k1 : Int))], .agg #[.bool g2, .string (S n2), .int .i64 (m + (k2 : Int))]] w fun e w' => e = .returned (.tuple #[.agg #[.bool g1, .string (S n1), .int .i64 (m + (k1 : Int))], .int .i64 0]) ∧ Below w.heap.size w w' := by
  obtain ⟨hs1, hx1, hx2⟩ := ok_size h1
  obtain ⟨hs2, hx3, hx4⟩ := ok_size h2
  have HT := Lib.hid (T3.new w g1 (S n1) (m + k1) g2 (S n2) (m + k2))
  have hmin : min (m + (k1 : Int)) (m + (k2 : Int)) = m := by omega
  have HV1 := Lib.hid (fun w => dvalid_ok w h1)
  have HV2 := Lib.hid (fun w => dvalid_ok w h2)
  have e1 := tl_ne (S_pos p1)
  have e2 := tl_ne' (S_pos p1)
  have e3 : (S n2).toList = [] := tl_nil (by rw [hn]; rfl)
  clear h1 h2 hn
  have T := HT.out
  go_enter Tryd.func13, Tryd.ntmps13
  go_wp2_with (first | (go_at_call 15; first | ((with_reducible refine (HV1.out _).mono ?_); rintro e w1 ⟨rfl, hX⟩; have T := T.step hX; clear hX; obtain ⟨a0, a1, a2⟩ := T.a.cells; obtain ⟨b0, b1, b2⟩ := T.b.cells; obtain ⟨c0, c1, c2⟩ := T.c.cells; have y0 := T.c.fz 0; have y1 := T.c.fz 1; have y2 := T.c.fz 2) | ((with_reducible refine (HV2.out _).mono ?_); rintro e w1 ⟨rfl, hX⟩; have T := T.step hX; clear hX; obtain ⟨a0, a1, a2⟩ := T.a.cells; obtain ⟨b0, b1, b2⟩ := T.b.cells; obtain ⟨c0, c1, c2⟩ := T.c.cells; have y0 := T.c.fz 0; have y1 := T.c.fz 1; have y2 := T.c.fz 2)))
  exact bodyPost_ret (v := .tuple #[.agg #[.bool g1, .string (S n1), .int .i64 (m + (k1 : Int))], .int .i64 0]) (by simp [results, Tryd.results13, go_sem, c0, c1, c2]) rfl ⟨rfl, ((T.bel.setCell (by simp; try omega) _).setCell (by simp; try omega) _).setCell (by simp; try omega) _⟩
set_option maxRecDepth 100000 in
set_option maxHeartbeats 8000000 in
theorem dadd_far1 (g1 : Bool) (n1 : Nat) (g2 : Bool) (n2 : Nat) (m : Int) (k1 k2 : Nat) (w : World) (h1 : okD g1 n1 (m + k1)) (h2 : okD g2 n2 (m + k2)) (hk : k1 = 0 ∨ k2 = 0) (p1 : 0 < n1) (p2 : 0 < n2) (z1 : 600 < (S n1).size + k1) (hk9 : k1 ≤ 1000) : Calls Tryd.prog 13 #[.agg #[.bool g1, .string (S n1), .int .i64 (m + (k1 : Int))], .agg #[.bool g2, .string (S n2), .int .i64 (m + (k2 : Int))]] w fun e w' => e = .returned (.tuple #[.agg #[.bool false, .string ⟨#[]⟩, .int .i64 0], .int .i64 2]) ∧ Below w.heap.size w w' := by
  obtain ⟨hs1, hx1, hx2⟩ := ok_size h1
  obtain ⟨hs2, hx3, hx4⟩ := ok_size h2
  have HT := Lib.hid (T3.new w g1 (S n1) (m + k1) g2 (S n2) (m + k2))
  have hmin : min (m + (k1 : Int)) (m + (k2 : Int)) = m := by omega
  have HV1 := Lib.hid (fun w => dvalid_ok w h1)
  have HV2 := Lib.hid (fun w => dvalid_ok w h2)
  have e1 := tl_ne (S_pos p1)
  have e2 := tl_ne' (S_pos p1)
  have e3 := tl_ne (S_pos p2)
  have e4 := tl_ne' (S_pos p2)
  have HS1 := Lib.hid (fun (z : Int) (hz : z = (k1 : Int)) w => shift_far (n := n1) z hz w p1 (by omega) (by omega) z1)
  clear h1 h2
  have T := HT.out
  go_enter Tryd.func13, Tryd.ntmps13
  go_wp2_with (first | (go_at_call 15; first | ((with_reducible refine (HV1.out _).mono ?_); rintro e w1 ⟨rfl, hX⟩; have T := T.step hX; clear hX; obtain ⟨a0, a1, a2⟩ := T.a.cells; obtain ⟨b0, b1, b2⟩ := T.b.cells; obtain ⟨c0, c1, c2⟩ := T.c.cells; have y0 := T.c.fz 0; have y1 := T.c.fz 1; have y2 := T.c.fz 2) | ((with_reducible refine (HV2.out _).mono ?_); rintro e w1 ⟨rfl, hX⟩; have T := T.step hX; clear hX; obtain ⟨a0, a1, a2⟩ := T.a.cells; obtain ⟨b0, b1, b2⟩ := T.b.cells; obtain ⟨c0, c1, c2⟩ := T.c.cells; have y0 := T.c.fz 0; have y1 := T.c.fz 1; have y2 := T.c.fz 2)) | (go_at_call 17; (with_reducible refine (HS1.out _ (by omega) _).mono ?_); rintro e w1 ⟨rfl, hX⟩; have T := T.step hX; clear hX; obtain ⟨a0, a1, a2⟩ := T.a.cells; obtain ⟨b0, b1, b2⟩ := T.b.cells; obtain ⟨c0, c1, c2⟩ := T.c.cells; have y0 := T.c.fz 0; have y1 := T.c.fz 1; have y2 := T.c.fz 2))
  exact bodyPost_ret (v := .tuple #[.agg #[.bool false, .string ⟨#[]⟩, .int .i64 0], .int .i64 2]) (by simp [results, Tryd.results13, go_sem, c0, c1, c2]) rfl ⟨rfl, ((T.bel.setCell (by simp; try omega) _).setCell (by simp; try omega) _).setCell (by simp; try omega) _⟩
set_option maxRecDepth 100000 in
set_option maxHeartbeats 8000000 in
theorem dadd_far2 (g1 : Bool) (n1 : Nat) (g2 : Bool) (n2 : Nat) (m : Int) (k1 k2 : Nat) (w : World) (h1 : okD g1 n1 (m + k1)) (h2 : okD g2 n2 (m + k2)) (hk : k1 = 0 ∨ k2 = 0) (p1 : 0 < n1) (p2 : 0 < n2) (z1 : (S n1).size + k1 ≤ 600) (z2 : 600 < (S n2).size + k2) (hk9 : k2 ≤ 1000) : Calls Tryd.prog 13 #[.agg #[.bool g1, .string (S n1), .int .i64 (m + (k1 : Int))], .agg #[.bool g2, .string (S n2), .int .i64 (m + (k2 : Int))]] w fun e w' => e = .returned (.tuple #[.agg #[.bool false, .string ⟨#[]⟩, .int .i64 0], .int .i64 2]) ∧ Below w.heap.size w w' := by
  obtain ⟨hs1, hx1, hx2⟩ := ok_size h1
  obtain ⟨hs2, hx3, hx4⟩ := ok_size h2
  have HT := Lib.hid (T3.new w g1 (S n1) (m + k1) g2 (S n2) (m + k2))
  have hmin : min (m + (k1 : Int)) (m + (k2 : Int)) = m := by omega
  have HV1 := Lib.hid (fun w => dvalid_ok w h1)
  have HV2 := Lib.hid (fun w => dvalid_ok w h2)
  have e1 := tl_ne (S_pos p1)
  have e2 := tl_ne' (S_pos p1)
  have e3 := tl_ne (S_pos p2)
  have e4 := tl_ne' (S_pos p2)
  have HS1 := Lib.hid (fun (z : Int) (hz : z = (k1 : Int)) w => shift_ok (n := n1) z hz w z1)
  have HS2 := Lib.hid (fun (z : Int) (hz : z = (k2 : Int)) w => shift_far (n := n2) z hz w p2 (by omega) (by omega) z2)
  clear h1 h2
  generalize hAe : n1 * 10 ^ k1 = A at *
  clear hAe
  have T := HT.out
  go_enter Tryd.func13, Tryd.ntmps13
  go_wp2_with (first | (go_at_call 15; first | ((with_reducible refine (HV1.out _).mono ?_); rintro e w1 ⟨rfl, hX⟩; have T := T.step hX; clear hX; obtain ⟨a0, a1, a2⟩ := T.a.cells; obtain ⟨b0, b1, b2⟩ := T.b.cells; obtain ⟨c0, c1, c2⟩ := T.c.cells; have y0 := T.c.fz 0; have y1 := T.c.fz 1; have y2 := T.c.fz 2) | ((with_reducible refine (HV2.out _).mono ?_); rintro e w1 ⟨rfl, hX⟩; have T := T.step hX; clear hX; obtain ⟨a0, a1, a2⟩ := T.a.cells; obtain ⟨b0, b1, b2⟩ := T.b.cells; obtain ⟨c0, c1, c2⟩ := T.c.cells; have y0 := T.c.fz 0; have y1 := T.c.fz 1; have y2 := T.c.fz 2)) | (go_at_call 17; first | ((with_reducible refine (HS1.out _ (by omega) _).mono ?_); rintro e w1 ⟨rfl, hX⟩; have T := T.step hX; clear hX; obtain ⟨a0, a1, a2⟩ := T.a.cells; obtain ⟨b0, b1, b2⟩ := T.b.cells; obtain ⟨c0, c1, c2⟩ := T.c.cells; have y0 := T.c.fz 0; have y1 := T.c.fz 1; have y2 := T.c.fz 2) | ((with_reducible refine (HS2.out _ (by omega) _).mono ?_); rintro e w1 ⟨rfl, hX⟩; have T := T.step hX; clear hX; obtain ⟨a0, a1, a2⟩ := T.a.cells; obtain ⟨b0, b1, b2⟩ := T.b.cells; obtain ⟨c0, c1, c2⟩ := T.c.cells; have y0 := T.c.fz 0; have y1 := T.c.fz 1; have y2 := T.c.fz 2)))
  exact bodyPost_ret (v := .tuple #[.agg #[.bool false, .string ⟨#[]⟩, .int .i64 0], .int .i64 2]) (by simp [results, Tryd.results13, go_sem, c0, c1, c2]) rfl ⟨rfl, ((T.bel.setCell (by simp; try omega) _).setCell (by simp; try omega) _).setCell (by simp; try omega) _⟩
set_option maxRecDepth 100000 in
set_option maxHeartbeats 8000000 in
theorem dadd_long (g1 : Bool) (n1 : Nat)  (n2 : Nat) (m : Int) (k1 k2 : Nat) (w : World) (h1 : okD g1 n1 (m + k1)) (h2 : okD g1 n2 (m + k2)) (hk : k1 = 0 ∨ k2 = 0) (p1 : 0 < n1) (p2 : 0 < n2) (z1 : (S n1).size + k1 ≤ 600) (z2 : (S n2).size + k2 ≤ 600) (hl : 600 < (S (n1 * 10 ^ k1 + n2 * 10 ^ k2)).size) : Calls Tryd.prog 13 #[.agg #[.bool g1, .string (S n1), .int .i64 (m + (k1 : Int))], .agg #[.bool g1, .string (S n2), .int .i64 (m + (k2 : Int))]] w fun e w' => e = .returned (.tuple #[.agg #[.bool false, .string ⟨#[]⟩, .int .i64 0], .int .i64 2]) ∧ Below w.heap.size w w' := by
  obtain ⟨hs1, hx1, hx2⟩ := ok_size h1
  obtain ⟨hs2, hx3, hx4⟩ := ok_size h2
  have HT := Lib.hid (T3.new w g1 (S n1) (m + k1) g1 (S n2) (m + k2))
  have hmin : min (m + (k1 : Int)) (m + (k2 : Int)) = m := by omega
  have HV1 := Lib.hid (fun w => dvalid_ok w h1)
  have HV2 := Lib.hid (fun w => dvalid_ok w h2)
  have e1 := tl_ne (S_pos p1)
  have e2 := tl_ne' (S_pos p1)
  have e3 := tl_ne (S_pos p2)
  have e4 := tl_ne' (S_pos p2)
  have HS1 := Lib.hid (fun (z : Int) (hz : z = (k1 : Int)) w => shift_ok (n := n1) z hz w z1)
  have HS2 := Lib.hid (fun (z : Int) (hz : z = (k2 : Int)) w => shift_ok (n := n2) z hz w z2)
  have hA : (S (n1 * 10 ^ k1)).size ≤ 600 := Nat.le_trans (S_pow_size (Nat.le_refl _)) z1
  have hB : (S (n2 * 10 ^ k2)).size ≤ 600 := Nat.le_trans (S_pow_size (Nat.le_refl _)) z2
  have HU := Lib.hid (fun w => add_any (n1 * 10 ^ k1) (n2 * 10 ^ k2) w hA hB)
  have hl1 : limS (n1 * 10 ^ k1 + n2 * 10 ^ k2) = 0 := by unfold limS; rw [if_neg (by rw [← S_size]; omega)]
  have hl2 : limE (n1 * 10 ^ k1 + n2 * 10 ^ k2) = 2 := by unfold limE; rw [if_neg (by rw [← S_size]; omega)]
  rw [hl1, hl2] at HU
  clear hl1 hl2 h1 h2 hl
  generalize hAe : n1 * 10 ^ k1 = A at *
  generalize hBe : n2 * 10 ^ k2 = B at *
  clear hAe hBe
  have T := HT.out
  go_enter Tryd.func13, Tryd.ntmps13
  go_wp2_with (first | (go_at_call 15; first | ((with_reducible refine (HV1.out _).mono ?_); rintro e w1 ⟨rfl, hX⟩; have T := T.step hX; clear hX; obtain ⟨a0, a1, a2⟩ := T.a.cells; obtain ⟨b0, b1, b2⟩ := T.b.cells; obtain ⟨c0, c1, c2⟩ := T.c.cells; have y0 := T.c.fz 0; have y1 := T.c.fz 1; have y2 := T.c.fz 2) | ((with_reducible refine (HV2.out _).mono ?_); rintro e w1 ⟨rfl, hX⟩; have T := T.step hX; clear hX; obtain ⟨a0, a1, a2⟩ := T.a.cells; obtain ⟨b0, b1, b2⟩ := T.b.cells; obtain ⟨c0, c1, c2⟩ := T.c.cells; have y0 := T.c.fz 0; have y1 := T.c.fz 1; have y2 := T.c.fz 2)) | (go_at_call 17; first | ((with_reducible refine (HS1.out _ (by omega) _).mono ?_); rintro e w1 ⟨rfl, hX⟩; have T := T.step hX; clear hX; obtain ⟨a0, a1, a2⟩ := T.a.cells; obtain ⟨b0, b1, b2⟩ := T.b.cells; obtain ⟨c0, c1, c2⟩ := T.c.cells; have y0 := T.c.fz 0; have y1 := T.c.fz 1; have y2 := T.c.fz 2) | ((with_reducible refine (HS2.out _ (by omega) _).mono ?_); rintro e w1 ⟨rfl, hX⟩; have T := T.step hX; clear hX; obtain ⟨a0, a1, a2⟩ := T.a.cells; obtain ⟨b0, b1, b2⟩ := T.b.cells; obtain ⟨c0, c1, c2⟩ := T.c.cells; have y0 := T.c.fz 0; have y1 := T.c.fz 1; have y2 := T.c.fz 2)) | (go_at_call 20; (with_reducible refine (HU.out _).mono ?_); rintro e w1 ⟨rfl, hX⟩; have T := T.step hX; clear hX; obtain ⟨a0, a1, a2⟩ := T.a.cells; obtain ⟨b0, b1, b2⟩ := T.b.cells; obtain ⟨c0, c1, c2⟩ := T.c.cells; have y0 := T.c.fz 0; have y1 := T.c.fz 1; have y2 := T.c.fz 2))
  exact bodyPost_ret (v := .tuple #[.agg #[.bool false, .string ⟨#[]⟩, .int .i64 0], .int .i64 2]) (by simp [results, Tryd.results13, go_sem, c0, c1, c2]) rfl ⟨rfl, ((T.bel.setCell (by simp; try omega) _).setCell (by simp; try omega) _).setCell (by simp; try omega) _⟩
set_option maxRecDepth 100000 in
set_option maxHeartbeats 8000000 in
theorem dadd_same (g1 : Bool) (n1 : Nat)  (n2 : Nat) (m : Int) (k1 k2 : Nat) (w : World) (h1 : okD g1 n1 (m + k1)) (h2 : okD g1 n2 (m + k2)) (hk : k1 = 0 ∨ k2 = 0) (p1 : 0 < n1) (p2 : 0 < n2) (z1 : (S n1).size + k1 ≤ 600) (z2 : (S n2).size + k2 ≤ 600) (hl : (S (n1 * 10 ^ k1 + n2 * 10 ^ k2)).size ≤ 600) : Calls Tryd.prog 13 #[.agg #[.bool g1, .string (S n1), .int .i64 (m + (k1 : Int))], .agg #[.bool g1, .string (S n2), .int .i64 (m + (k2 : Int))]] w fun e w' => e = .returned (.tuple #[.agg #[.bool (nG g1 (n1 * 10 ^ k1 + n2 * 10 ^ k2) (m)), .string (S (nN (n1 * 10 ^ k1 + n2 * 10 ^ k2) (m))), .int .i64 (nX (n1 * 10 ^ k1 + n2 * 10 ^ k2) (m))], .int .i64 (nE (n1 * 10 ^ k1 + n2 * 10 ^ k2) (m))]) ∧ Below w.heap.size w w' := by
  obtain ⟨hs1, hx1, hx2⟩ := ok_size h1
  obtain ⟨hs2, hx3, hx4⟩ := ok_size h2
  have HT := Lib.hid (T3.new w g1 (S n1) (m + k1) g1 (S n2) (m + k2))
  have hmin : min (m + (k1 : Int)) (m + (k2 : Int)) = m := by omega
  have HV1 := Lib.hid (fun w => dvalid_ok w h1)
  have HV2 := Lib.hid (fun w => dvalid_ok w h2)
  have e1 := tl_ne (S_pos p1)
  have e2 := tl_ne' (S_pos p1)
  have e3 := tl_ne (S_pos p2)
  have e4 := tl_ne' (S_pos p2)
  have HS1 := Lib.hid (fun (z : Int) (hz : z = (k1 : Int)) w => shift_ok (n := n1) z hz w z1)
  have HS2 := Lib.hid (fun (z : Int) (hz : z = (k2 : Int)) w => shift_ok (n := n2) z hz w z2)
  have hA : (S (n1 * 10 ^ k1)).size ≤ 600 := Nat.le_trans (S_pow_size (Nat.le_refl _)) z1
  have hB : (S (n2 * 10 ^ k2)).size ≤ 600 := Nat.le_trans (S_pow_size (Nat.le_refl _)) z2
  have HU := Lib.hid (fun w => add_any (n1 * 10 ^ k1) (n2 * 10 ^ k2) w hA hB)
  have hl1 : limS (n1 * 10 ^ k1 + n2 * 10 ^ k2) = n1 * 10 ^ k1 + n2 * 10 ^ k2 := by unfold limS; rw [if_pos (by rw [← S_size]; omega)]
  have hl2 : limE (n1 * 10 ^ k1 + n2 * 10 ^ k2) = 0 := by unfold limE; rw [if_pos (by rw [← S_size]; omega)]
  rw [hl1, hl2] at HU
  have HM := Lib.hid (fun w => make_any g1 (S (n1 * 10 ^ k1 + n2 * 10 ^ k2)) (n1 * 10 ^ k1 + n2 * 10 ^ k2) m w (Num_S _) (by omega) (by omega))
  obtain ⟨ra, ha⟩ : ∃ a, nG g1 (n1 * 10 ^ k1 + n2 * 10 ^ k2) (m) = a := ⟨_, rfl⟩
  obtain ⟨rb, hb⟩ : ∃ b, S (nN (n1 * 10 ^ k1 + n2 * 10 ^ k2) (m)) = b := ⟨_, rfl⟩
  obtain ⟨rc, hc⟩ : ∃ c, nX (n1 * 10 ^ k1 + n2 * 10 ^ k2) (m) = c := ⟨_, rfl⟩
  obtain ⟨rd, hd⟩ : ∃ d, nE (n1 * 10 ^ k1 + n2 * 10 ^ k2) (m) = d := ⟨_, rfl⟩
  rw [ha, hb, hc, hd] at HM ⊢
  clear ha hb hc hd
  clear hl1 hl2 h1 h2
  generalize hCe : S (n1 * 10 ^ k1 + n2 * 10 ^ k2) = C at *
  clear hCe
  generalize hAe : n1 * 10 ^ k1 = A at *
  generalize hBe : n2 * 10 ^ k2 = B at *
  clear hAe hBe
  have T := HT.out
  go_enter Tryd.func13, Tryd.ntmps13
  go_wp2_with (first | (go_at_call 15; first | ((with_reducible refine (HV1.out _).mono ?_); rintro e w1 ⟨rfl, hX⟩; have T := T.step hX; clear hX; obtain ⟨a0, a1, a2⟩ := T.a.cells; obtain ⟨b0, b1, b2⟩ := T.b.cells; obtain ⟨c0, c1, c2⟩ := T.c.cells; have y0 := T.c.fz 0; have y1 := T.c.fz 1; have y2 := T.c.fz 2) | ((with_reducible refine (HV2.out _).mono ?_); rintro e w1 ⟨rfl, hX⟩; have T := T.step hX; clear hX; obtain ⟨a0, a1, a2⟩ := T.a.cells; obtain ⟨b0, b1, b2⟩ := T.b.cells; obtain ⟨c0, c1, c2⟩ := T.c.cells; have y0 := T.c.fz 0; have y1 := T.c.fz 1; have y2 := T.c.fz 2)) | (go_at_call 17; first | ((with_reducible refine (HS1.out _ (by omega) _).mono ?_); rintro e w1 ⟨rfl, hX⟩; have T := T.step hX; clear hX; obtain ⟨a0, a1, a2⟩ := T.a.cells; obtain ⟨b0, b1, b2⟩ := T.b.cells; obtain ⟨c0, c1, c2⟩ := T.c.cells; have y0 := T.c.fz 0; have y1 := T.c.fz 1; have y2 := T.c.fz 2) | ((with_reducible refine (HS2.out _ (by omega) _).mono ?_); rintro e w1 ⟨rfl, hX⟩; have T := T.step hX; clear hX; obtain ⟨a0, a1, a2⟩ := T.a.cells; obtain ⟨b0, b1, b2⟩ := T.b.cells; obtain ⟨c0, c1, c2⟩ := T.c.cells; have y0 := T.c.fz 0; have y1 := T.c.fz 1; have y2 := T.c.fz 2)) | (go_at_call 20; (with_reducible refine (HU.out _).mono ?_); rintro e w1 ⟨rfl, hX⟩; have T := T.step hX; clear hX; obtain ⟨a0, a1, a2⟩ := T.a.cells; obtain ⟨b0, b1, b2⟩ := T.b.cells; obtain ⟨c0, c1, c2⟩ := T.c.cells; have y0 := T.c.fz 0; have y1 := T.c.fz 1; have y2 := T.c.fz 2) | (go_at_call 21; (with_reducible refine (HM.out _).mono ?_); rintro e w1 ⟨rfl, hX⟩; have T := T.step hX; clear hX; obtain ⟨a0, a1, a2⟩ := T.a.cells; obtain ⟨b0, b1, b2⟩ := T.b.cells; obtain ⟨c0, c1, c2⟩ := T.c.cells; have y0 := T.c.fz 0; have y1 := T.c.fz 1; have y2 := T.c.fz 2))
  exact bodyPost_ret (v := .tuple #[.agg #[.bool ra, .string rb, .int .i64 rc], .int .i64 rd]) (by simp [results, Tryd.results13, go_sem, c0, c1, c2]) rfl ⟨rfl, ((T.bel.setCell (by simp; try omega) _).setCell (by simp; try omega) _).setCell (by simp; try omega) _⟩
set_option maxRecDepth 100000 in
set_option maxHeartbeats 8000000 in
theorem dadd_less (g1 : Bool) (n1 : Nat) (g2 : Bool) (n2 : Nat) (m : Int) (k1 k2 : Nat) (w : World) (h1 : okD g1 n1 (m + k1)) (h2 : okD g2 n2 (m + k2)) (hk : k1 = 0 ∨ k2 = 0) (p1 : 0 < n1) (p2 : 0 < n2) (z1 : (S n1).size + k1 ≤ 600) (z2 : (S n2).size + k2 ≤ 600) (hg : g1 = !g2) (hl : n1 * 10 ^ k1 < n2 * 10 ^ k2) : Calls Tryd.prog 13 #[.agg #[.bool g1, .string (S n1), .int .i64 (m + (k1 : Int))], .agg #[.bool g2, .string (S n2), .int .i64 (m + (k2 : Int))]] w fun e w' => e = .returned (.tuple #[.agg #[.bool (nG g2 (n2 * 10 ^ k2 - n1 * 10 ^ k1) (m)), .string (S (nN (n2 * 10 ^ k2 - n1 * 10 ^ k1) (m))), .int .i64 (nX (n2 * 10 ^ k2 - n1 * 10 ^ k1) (m))], .int .i64 (nE (n2 * 10 ^ k2 - n1 * 10 ^ k1) (m))]) ∧ Below w.heap.size w w' := by
  obtain ⟨hs1, hx1, hx2⟩ := ok_size h1
  obtain ⟨hs2, hx3, hx4⟩ := ok_size h2
  have HT := Lib.hid (T3.new w g1 (S n1) (m + k1) g2 (S n2) (m + k2))
  have hmin : min (m + (k1 : Int)) (m + (k2 : Int)) = m := by omega
  have HV1 := Lib.hid (fun w => dvalid_ok w h1)
  have HV2 := Lib.hid (fun w => dvalid_ok w h2)
  have e1 := tl_ne (S_pos p1)
  have e2 := tl_ne' (S_pos p1)
  have e3 := tl_ne (S_pos p2)
  have e4 := tl_ne' (S_pos p2)
  have HS1 := Lib.hid (fun (z : Int) (hz : z = (k1 : Int)) w => shift_ok (n := n1) z hz w z1)
  have HS2 := Lib.hid (fun (z : Int) (hz : z = (k2 : Int)) w => shift_ok (n := n2) z hz w z2)
  have hA : (S (n1 * 10 ^ k1)).size ≤ 600 := Nat.le_trans (S_pow_size (Nat.le_refl _)) z1
  have hB : (S (n2 * 10 ^ k2)).size ≤ 600 := Nat.le_trans (S_pow_size (Nat.le_refl _)) z2
  have HC := Lib.hid (fun w => cmp_any (n1 * 10 ^ k1) (n2 * 10 ^ k2) w (by omega) (by omega))
  rw [cmpN_lt hl] at HC
  have HU := Lib.hid (fun w => sub_any (n2 * 10 ^ k2) (n1 * 10 ^ k1) w (by omega) (by omega))
  rw [subE_0 (by omega)] at HU
  have hr := S_less hB (Nat.sub_le (n2 * 10 ^ k2) (n1 * 10 ^ k1))
  have HM := Lib.hid (fun w => make_any g2 (S (n2 * 10 ^ k2 - n1 * 10 ^ k1)) (n2 * 10 ^ k2 - n1 * 10 ^ k1) m w (Num_S _) (by omega) (by omega))
  obtain ⟨ra, ha⟩ : ∃ a, nG g2 (n2 * 10 ^ k2 - n1 * 10 ^ k1) (m) = a := ⟨_, rfl⟩
  obtain ⟨rb, hb⟩ : ∃ b, S (nN (n2 * 10 ^ k2 - n1 * 10 ^ k1) (m)) = b := ⟨_, rfl⟩
  obtain ⟨rc, hc⟩ : ∃ c, nX (n2 * 10 ^ k2 - n1 * 10 ^ k1) (m) = c := ⟨_, rfl⟩
  obtain ⟨rd, hd⟩ : ∃ d, nE (n2 * 10 ^ k2 - n1 * 10 ^ k1) (m) = d := ⟨_, rfl⟩
  rw [ha, hb, hc, hd] at HM ⊢
  clear ha hb hc hd
  clear h1 h2 hl
  generalize hCe : S (n2 * 10 ^ k2 - n1 * 10 ^ k1) = C at *
  clear hCe
  generalize hAe : n1 * 10 ^ k1 = A at *
  generalize hBe : n2 * 10 ^ k2 = B at *
  clear hAe hBe
  have T := HT.out
  have ya := T.a.fz 0
  subst hg
  cases g2
  all_goals
    simp only [Bool.not_false, Bool.not_true] at *
    go_enter Tryd.func13, Tryd.ntmps13
    go_wp2_with (first | (go_at_call 15; first | ((with_reducible refine (HV1.out _).mono ?_); rintro e w1 ⟨rfl, hX⟩; have T := T.step hX; clear hX; obtain ⟨a0, a1, a2⟩ := T.a.cells; obtain ⟨b0, b1, b2⟩ := T.b.cells; obtain ⟨c0, c1, c2⟩ := T.c.cells; have y0 := T.c.fz 0; have y1 := T.c.fz 1; have y2 := T.c.fz 2; have ya := T.a.fz 0) | ((with_reducible refine (HV2.out _).mono ?_); rintro e w1 ⟨rfl, hX⟩; have T := T.step hX; clear hX; obtain ⟨a0, a1, a2⟩ := T.a.cells; obtain ⟨b0, b1, b2⟩ := T.b.cells; obtain ⟨c0, c1, c2⟩ := T.c.cells; have y0 := T.c.fz 0; have y1 := T.c.fz 1; have y2 := T.c.fz 2; have ya := T.a.fz 0)) | (go_at_call 17; first | ((with_reducible refine (HS1.out _ (by omega) _).mono ?_); rintro e w1 ⟨rfl, hX⟩; have T := T.step hX; clear hX; obtain ⟨a0, a1, a2⟩ := T.a.cells; obtain ⟨b0, b1, b2⟩ := T.b.cells; obtain ⟨c0, c1, c2⟩ := T.c.cells; have y0 := T.c.fz 0; have y1 := T.c.fz 1; have y2 := T.c.fz 2; have ya := T.a.fz 0) | ((with_reducible refine (HS2.out _ (by omega) _).mono ?_); rintro e w1 ⟨rfl, hX⟩; have T := T.step hX; clear hX; obtain ⟨a0, a1, a2⟩ := T.a.cells; obtain ⟨b0, b1, b2⟩ := T.b.cells; obtain ⟨c0, c1, c2⟩ := T.c.cells; have y0 := T.c.fz 0; have y1 := T.c.fz 1; have y2 := T.c.fz 2; have ya := T.a.fz 0)) | (go_at_call 33; (with_reducible refine (HC.out _).mono ?_); rintro e w1 ⟨rfl, rfl⟩) | (go_at_call 34; (with_reducible refine (HU.out _).mono ?_); rintro e w1 ⟨rfl, hX⟩; have T := (T.neg _).step hX; clear hX; obtain ⟨a0, a1, a2⟩ := T.a.cells; obtain ⟨b0, b1, b2⟩ := T.b.cells; obtain ⟨c0, c1, c2⟩ := T.c.cells; have y0 := T.c.fz 0; have y1 := T.c.fz 1; have y2 := T.c.fz 2) | (go_at_call 21; (with_reducible refine (HM.out _).mono ?_); rintro e w1 ⟨rfl, hX⟩; have T := T.step hX; clear hX; obtain ⟨a0, a1, a2⟩ := T.a.cells; obtain ⟨b0, b1, b2⟩ := T.b.cells; obtain ⟨c0, c1, c2⟩ := T.c.cells; have y0 := T.c.fz 0; have y1 := T.c.fz 1; have y2 := T.c.fz 2))
    exact bodyPost_ret (v := .tuple #[.agg #[.bool ra, .string rb, .int .i64 rc], .int .i64 rd]) (by simp [results, Tryd.results13, go_sem, c0, c1, c2]) rfl ⟨rfl, ((T.bel.setCell (by simp; try omega) _).setCell (by simp; try omega) _).setCell (by simp; try omega) _⟩
set_option maxRecDepth 100000 in
set_option maxHeartbeats 8000000 in
theorem dadd_more (g1 : Bool) (n1 : Nat) (g2 : Bool) (n2 : Nat) (m : Int) (k1 k2 : Nat) (w : World) (h1 : okD g1 n1 (m + k1)) (h2 : okD g2 n2 (m + k2)) (hk : k1 = 0 ∨ k2 = 0) (p1 : 0 < n1) (p2 : 0 < n2) (z1 : (S n1).size + k1 ≤ 600) (z2 : (S n2).size + k2 ≤ 600) (hg : g1 = !g2) (hl : n2 * 10 ^ k2 ≤ n1 * 10 ^ k1) : Calls Tryd.prog 13 #[.agg #[.bool g1, .string (S n1), .int .i64 (m + (k1 : Int))], .agg #[.bool g2, .string (S n2), .int .i64 (m + (k2 : Int))]] w fun e w' => e = .returned (.tuple #[.agg #[.bool (nG g1 (n1 * 10 ^ k1 - n2 * 10 ^ k2) (m)), .string (S (nN (n1 * 10 ^ k1 - n2 * 10 ^ k2) (m))), .int .i64 (nX (n1 * 10 ^ k1 - n2 * 10 ^ k2) (m))], .int .i64 (nE (n1 * 10 ^ k1 - n2 * 10 ^ k2) (m))]) ∧ Below w.heap.size w w' := by
  obtain ⟨hs1, hx1, hx2⟩ := ok_size h1
  obtain ⟨hs2, hx3, hx4⟩ := ok_size h2
  have HT := Lib.hid (T3.new w g1 (S n1) (m + k1) g2 (S n2) (m + k2))
  have hmin : min (m + (k1 : Int)) (m + (k2 : Int)) = m := by omega
  have HV1 := Lib.hid (fun w => dvalid_ok w h1)
  have HV2 := Lib.hid (fun w => dvalid_ok w h2)
  have e1 := tl_ne (S_pos p1)
  have e2 := tl_ne' (S_pos p1)
  have e3 := tl_ne (S_pos p2)
  have e4 := tl_ne' (S_pos p2)
  have HS1 := Lib.hid (fun (z : Int) (hz : z = (k1 : Int)) w => shift_ok (n := n1) z hz w z1)
  have HS2 := Lib.hid (fun (z : Int) (hz : z = (k2 : Int)) w => shift_ok (n := n2) z hz w z2)
  have hA : (S (n1 * 10 ^ k1)).size ≤ 600 := Nat.le_trans (S_pow_size (Nat.le_refl _)) z1
  have hB : (S (n2 * 10 ^ k2)).size ≤ 600 := Nat.le_trans (S_pow_size (Nat.le_refl _)) z2
  have HC := Lib.hid (fun w => cmp_any (n1 * 10 ^ k1) (n2 * 10 ^ k2) w (by omega) (by omega))
  have hc0 : 0 ≤ cmpN (n1 * 10 ^ k1) (n2 * 10 ^ k2) := by unfold cmpN; split <;> (try split) <;> omega
  have HU := Lib.hid (fun w => sub_any (n1 * 10 ^ k1) (n2 * 10 ^ k2) w (by omega) (by omega))
  rw [subE_0 (by omega)] at HU
  have hr := S_less hA (Nat.sub_le (n1 * 10 ^ k1) (n2 * 10 ^ k2))
  have HM := Lib.hid (fun w => make_any g1 (S (n1 * 10 ^ k1 - n2 * 10 ^ k2)) (n1 * 10 ^ k1 - n2 * 10 ^ k2) m w (Num_S _) (by omega) (by omega))
  obtain ⟨ra, ha⟩ : ∃ a, nG g1 (n1 * 10 ^ k1 - n2 * 10 ^ k2) (m) = a := ⟨_, rfl⟩
  obtain ⟨rb, hb⟩ : ∃ b, S (nN (n1 * 10 ^ k1 - n2 * 10 ^ k2) (m)) = b := ⟨_, rfl⟩
  obtain ⟨rc, hc⟩ : ∃ c, nX (n1 * 10 ^ k1 - n2 * 10 ^ k2) (m) = c := ⟨_, rfl⟩
  obtain ⟨rd, hd⟩ : ∃ d, nE (n1 * 10 ^ k1 - n2 * 10 ^ k2) (m) = d := ⟨_, rfl⟩
  rw [ha, hb, hc, hd] at HM ⊢
  clear ha hb hc hd
  clear h1 h2 hl
  generalize hCe : S (n1 * 10 ^ k1 - n2 * 10 ^ k2) = C at *
  clear hCe
  generalize hAe : n1 * 10 ^ k1 = A at *
  generalize hBe : n2 * 10 ^ k2 = B at *
  clear hAe hBe
  have T := HT.out
  have ya := T.a.fz 0
  subst hg
  cases g2
  all_goals
    simp only [Bool.not_false, Bool.not_true] at *
    go_enter Tryd.func13, Tryd.ntmps13
    go_wp2_with (first | (go_at_call 15; first | ((with_reducible refine (HV1.out _).mono ?_); rintro e w1 ⟨rfl, hX⟩; have T := T.step hX; clear hX; obtain ⟨a0, a1, a2⟩ := T.a.cells; obtain ⟨b0, b1, b2⟩ := T.b.cells; obtain ⟨c0, c1, c2⟩ := T.c.cells; have y0 := T.c.fz 0; have y1 := T.c.fz 1; have y2 := T.c.fz 2; have ya := T.a.fz 0) | ((with_reducible refine (HV2.out _).mono ?_); rintro e w1 ⟨rfl, hX⟩; have T := T.step hX; clear hX; obtain ⟨a0, a1, a2⟩ := T.a.cells; obtain ⟨b0, b1, b2⟩ := T.b.cells; obtain ⟨c0, c1, c2⟩ := T.c.cells; have y0 := T.c.fz 0; have y1 := T.c.fz 1; have y2 := T.c.fz 2; have ya := T.a.fz 0)) | (go_at_call 17; first | ((with_reducible refine (HS1.out _ (by omega) _).mono ?_); rintro e w1 ⟨rfl, hX⟩; have T := T.step hX; clear hX; obtain ⟨a0, a1, a2⟩ := T.a.cells; obtain ⟨b0, b1, b2⟩ := T.b.cells; obtain ⟨c0, c1, c2⟩ := T.c.cells; have y0 := T.c.fz 0; have y1 := T.c.fz 1; have y2 := T.c.fz 2; have ya := T.a.fz 0) | ((with_reducible refine (HS2.out _ (by omega) _).mono ?_); rintro e w1 ⟨rfl, hX⟩; have T := T.step hX; clear hX; obtain ⟨a0, a1, a2⟩ := T.a.cells; obtain ⟨b0, b1, b2⟩ := T.b.cells; obtain ⟨c0, c1, c2⟩ := T.c.cells; have y0 := T.c.fz 0; have y1 := T.c.fz 1; have y2 := T.c.fz 2; have ya := T.a.fz 0)) | (go_at_call 33; (with_reducible refine (HC.out _).mono ?_); rintro e w1 ⟨rfl, rfl⟩) | (go_at_call 34; (with_reducible refine (HU.out _).mono ?_); rintro e w1 ⟨rfl, hX⟩; have T := T.step hX; clear hX; obtain ⟨a0, a1, a2⟩ := T.a.cells; obtain ⟨b0, b1, b2⟩ := T.b.cells; obtain ⟨c0, c1, c2⟩ := T.c.cells; have y0 := T.c.fz 0; have y1 := T.c.fz 1; have y2 := T.c.fz 2) | (go_at_call 21; (with_reducible refine (HM.out _).mono ?_); rintro e w1 ⟨rfl, hX⟩; have T := T.step hX; clear hX; obtain ⟨a0, a1, a2⟩ := T.a.cells; obtain ⟨b0, b1, b2⟩ := T.b.cells; obtain ⟨c0, c1, c2⟩ := T.c.cells; have y0 := T.c.fz 0; have y1 := T.c.fz 1; have y2 := T.c.fz 2))
    exact bodyPost_ret (v := .tuple #[.agg #[.bool ra, .string rb, .int .i64 rc], .int .i64 rd]) (by simp [results, Tryd.results13, go_sem, c0, c1, c2]) rfl ⟨rfl, ((T.bel.setCell (by simp; try omega) _).setCell (by simp; try omega) _).setCell (by simp; try omega) _⟩
end Go.Proofs.YtjidjcnjgjmeoaaDoor.Dec
