/-
  Package decimal: a quotient, rounded.
-/
import Derived.Test.YtjidjcnjgjmeoaaDoorDecFB
import Derived.BigQuiet
namespace Go.Proofs.YtjidjcnjgjmeoaaDoor.Dec
open Go.RowKit
set_option linter.unusedVariables false
set_option linter.unusedSimpArgs false
open Go.Proofs.YtjidjcnjgjmeoaaDoor.Dig

theorem T3.dn {w W : World} {g1 g2 : Bool} {s1 s2 : ByteArray} {x1 x2 : Int} (h : T3 w W g1 s1 x1 g2 s2 x2) (n : Nat) : T3 w (W.drewN n) g1 s1 x1 g2 s2 x2 := ⟨h.a, h.b, h.c, h.bel.trans ⟨rfl, rfl, rfl, Nat.le_refl _, fun _ _ => rfl⟩⟩
set_option maxRecDepth 100000 in
set_option maxHeartbeats 8000000 in
theorem qu_bad0 (g1 : Bool) (n1 : Nat) (x1 : Int) (g2 : Bool) (n2 : Nat) (x2 p m : Int) (w : World) (h1 : okD g1 n1 x1) (h2 : okD g2 n2 x2) (hb : m < 0) : Calls Tryd.prog 6 #[.agg #[.bool g1, .string (S n1), .int .i64 x1], .agg #[.bool g2, .string (S n2), .int .i64 x2], .int .i64 p, .int .i64 m] w fun e w' => e = .returned (.tuple #[.agg #[.bool false, .string ⟨#[]⟩, .int .i64 0], .int .i64 1]) ∧ Below w.heap.size w w' := by
  have T := T3.new w g1 (S n1) x1 g2 (S n2) x2
  obtain ⟨a0, a1, a2⟩ := T.a.cells
  obtain ⟨b0, b1, b2⟩ := T.b.cells
  obtain ⟨c0, c1, c2⟩ := T.c.cells
  have y0 := T.c.fz 0
  have y1 := T.c.fz 1
  have y2 := T.c.fz 2
  clear h1 h2
  go_enter Tryd.func6, Tryd.ntmps6
  go_wp2
  exact bodyPost_ret (v := .tuple #[.agg #[.bool false, .string ⟨#[]⟩, .int .i64 0], .int .i64 1]) (by simp [results, Tryd.results6, go_sem, c0, c1, c2]) rfl ⟨rfl, T.bel⟩
set_option maxRecDepth 100000 in
set_option maxHeartbeats 8000000 in
theorem qu_bad1 (g1 : Bool) (n1 : Nat) (x1 : Int) (g2 : Bool) (n2 : Nat) (x2 p m : Int) (w : World) (h1 : okD g1 n1 x1) (h2 : okD g2 n2 x2) (hm : 0 ≤ m) (hb : 4 < m) : Calls Tryd.prog 6 #[.agg #[.bool g1, .string (S n1), .int .i64 x1], .agg #[.bool g2, .string (S n2), .int .i64 x2], .int .i64 p, .int .i64 m] w fun e w' => e = .returned (.tuple #[.agg #[.bool false, .string ⟨#[]⟩, .int .i64 0], .int .i64 1]) ∧ Below w.heap.size w w' := by
  have T := T3.new w g1 (S n1) x1 g2 (S n2) x2
  obtain ⟨a0, a1, a2⟩ := T.a.cells
  obtain ⟨b0, b1, b2⟩ := T.b.cells
  obtain ⟨c0, c1, c2⟩ := T.c.cells
  have y0 := T.c.fz 0
  have y1 := T.c.fz 1
  have y2 := T.c.fz 2
  clear h1 h2
  go_enter Tryd.func6, Tryd.ntmps6
  go_wp2
  exact bodyPost_ret (v := .tuple #[.agg #[.bool false, .string ⟨#[]⟩, .int .i64 0], .int .i64 1]) (by simp [results, Tryd.results6, go_sem, c0, c1, c2]) rfl ⟨rfl, T.bel⟩
set_option maxRecDepth 100000 in
set_option maxHeartbeats 8000000 in
theorem qu_bad2 (g1 : Bool) (n1 : Nat) (x1 : Int) (g2 : Bool) (n2 : Nat) (x2 p m : Int) (w : World) (h1 : okD g1 n1 x1) (h2 : okD g2 n2 x2) (hm : 0 ≤ m ∧ m ≤ 4) (hb : p < -400) : Calls Tryd.prog 6 #[.agg #[.bool g1, .string (S n1), .int .i64 x1], .agg #[.bool g2, .string (S n2), .int .i64 x2], .int .i64 p, .int .i64 m] w fun e w' => e = .returned (.tuple #[.agg #[.bool false, .string ⟨#[]⟩, .int .i64 0], .int .i64 1]) ∧ Below w.heap.size w w' := by
  have T := T3.new w g1 (S n1) x1 g2 (S n2) x2
  obtain ⟨a0, a1, a2⟩ := T.a.cells
  obtain ⟨b0, b1, b2⟩ := T.b.cells
  obtain ⟨c0, c1, c2⟩ := T.c.cells
  have y0 := T.c.fz 0
  have y1 := T.c.fz 1
  have y2 := T.c.fz 2
  clear h1 h2
  go_enter Tryd.func6, Tryd.ntmps6
  go_wp2
  exact bodyPost_ret (v := .tuple #[.agg #[.bool false, .string ⟨#[]⟩, .int .i64 0], .int .i64 1]) (by simp [results, Tryd.results6, go_sem, c0, c1, c2]) rfl ⟨rfl, T.bel⟩
set_option maxRecDepth 100000 in
set_option maxHeartbeats 8000000 in
theorem qu_bad3 (g1 : Bool) (n1 : Nat) (x1 : Int) (g2 : Bool) (n2 : Nat) (x2 p m : Int) (w : World) (h1 : okD g1 n1 x1) (h2 : okD g2 n2 x2) (hm : 0 ≤ m ∧ m ≤ 4) (hp : -400 ≤ p) (hb : 400 < p) : Calls Tryd.prog 6 #[.agg #[.bool g1, .string (S n1), .int .i64 x1], .agg #[.bool g2, .string (S n2), .int .i64 x2], .int .i64 p, .int .i64 m] w fun e w' => e = .returned (.tuple #[.agg #[.bool false, .string ⟨#[]⟩, .int .i64 0], .int .i64 1]) ∧ Below w.heap.size w w' := by
  have T := T3.new w g1 (S n1) x1 g2 (S n2) x2
  obtain ⟨a0, a1, a2⟩ := T.a.cells
  obtain ⟨b0, b1, b2⟩ := T.b.cells
  obtain ⟨c0, c1, c2⟩ := T.c.cells
  have y0 := T.c.fz 0
  have y1 := T.c.fz 1
  have y2 := T.c.fz 2
  clear h1 h2
  go_enter Tryd.func6, Tryd.ntmps6
  go_wp2
  exact bodyPost_ret (v := .tuple #[.agg #[.bool false, .string ⟨#[]⟩, .int .i64 0], .int .i64 1]) (by simp [results, Tryd.results6, go_sem, c0, c1, c2]) rfl ⟨rfl, T.bel⟩
set_option maxRecDepth 100000 in
set_option maxHeartbeats 8000000 in
theorem qu_zero (g1 : Bool) (n1 : Nat) (x1 : Int) (g2 : Bool) (n2 : Nat) (x2 p m : Int) (w : World) (h1 : okD g1 n1 x1) (h2 : okD g2 n2 x2) (hm : 0 ≤ m ∧ m ≤ 4) (hp : -400 ≤ p ∧ p ≤ 400) (hn : n2 = 0) : Calls Tryd.prog 6 #[.agg #[.bool g1, .string (S n1), .int .i64 x1], .agg #[.bool g2, .string (S n2), .int .i64 x2], .int .i64 p, .int .i64 m] w fun e w' => e = .returned (.tuple #[.agg #[.bool false, .string ⟨#[]⟩, .int .i64 0], .int .i64 14]) ∧ Below w.heap.size w w' := by
  obtain ⟨hs1, hx1, hx2⟩ := ok_size h1
  obtain ⟨hs2, hx3, hx4⟩ := ok_size h2
  have HT := Lib.hid (T3.new w g1 (S n1) x1 g2 (S n2) x2)
  have HV1 := Lib.hid (fun w => dvalid_ok w h1)
  have HV2 := Lib.hid (fun w => dvalid_ok w h2)
  have e3 : (S n2).toList = [] := tl_nil (by rw [hn]; rfl)
  clear h1 h2 hn
  have T := HT.out
  go_enter Tryd.func6, Tryd.ntmps6
  go_wp2_with (first | (go_at_call 15; first | ((with_reducible refine (HV1.out _).mono ?_); rintro e w1 ⟨rfl, hX⟩; have T := T.step hX; clear hX; obtain ⟨a0, a1, a2⟩ := T.a.cells; obtain ⟨b0, b1, b2⟩ := T.b.cells; obtain ⟨c0, c1, c2⟩ := T.c.cells; have y0 := T.c.fz 0; have y1 := T.c.fz 1; have y2 := T.c.fz 2) | ((with_reducible refine (HV2.out _).mono ?_); rintro e w1 ⟨rfl, hX⟩; have T := T.step hX; clear hX; obtain ⟨a0, a1, a2⟩ := T.a.cells; obtain ⟨b0, b1, b2⟩ := T.b.cells; obtain ⟨c0, c1, c2⟩ := T.c.cells; have y0 := T.c.fz 0; have y1 := T.c.fz 1; have y2 := T.c.fz 2)))
  exact bodyPost_ret (v := .tuple #[.agg #[.bool false, .string ⟨#[]⟩, .int .i64 0], .int .i64 14]) (by simp [results, Tryd.results6, go_sem, c0, c1, c2]) rfl ⟨rfl, ((T.bel.setCell (by simp; try omega) _).setCell (by simp; try omega) _).setCell (by simp; try omega) _⟩
set_option maxRecDepth 100000 in
set_option maxHeartbeats 8000000 in
theorem qu_near1 (g1 : Bool) (n1 : Nat) (x1 : Int) (g2 : Bool) (n2 : Nat) (x2 p m : Int) (w : World) (h1 : okD g1 n1 x1) (h2 : okD g2 n2 x2) (hm : 0 ≤ m ∧ m ≤ 4) (hp : -400 ≤ p ∧ p ≤ 400) (p2 : 0 < n2) (k : Nat) (hc : x1 - x2 + p = (k : Int)) (hk : k ≤ 480) (hu : upB (g1 != g2) (n1 * 10 ^ k / n2) (n1 * 10 ^ k % n2) n2 m = true) : Calls Tryd.prog 6 #[.agg #[.bool g1, .string (S n1), .int .i64 x1], .agg #[.bool g2, .string (S n2), .int .i64 x2], .int .i64 p, .int .i64 m] w fun e w' => e = .returned (.tuple #[.agg #[.bool (nG (g1 != g2) (n1 * 10 ^ k / n2 + 1) (-p)), .string (S (nN (n1 * 10 ^ k / n2 + 1) (-p))), .int .i64 (nX (n1 * 10 ^ k / n2 + 1) (-p))], .int .i64 (nE (n1 * 10 ^ k / n2 + 1) (-p))]) ∧ Below w.heap.size w w' := by
  obtain ⟨hs1, hx1, hx2⟩ := ok_size h1
  obtain ⟨hs2, hx3, hx4⟩ := ok_size h2
  have HT := Lib.hid (T3.new w g1 (S n1) x1 g2 (S n2) x2)
  have HV1 := Lib.hid (fun w => dvalid_ok w h1)
  have HV2 := Lib.hid (fun w => dvalid_ok w h2)
  have e3 := tl_ne (S_pos p2)
  have e4 := tl_ne' (S_pos p2)
  have s1 : IntKind.i64.wrap (x1 - x2) = x1 - x2 := IntWalk.i64_in _ (by omega)
  have s2 : IntKind.i64.wrap (x1 - x2 + p) = (k : Int) := by rw [← hc]; exact IntWalk.i64_in _ (by omega)
  have hX : (S (n1 * 10 ^ k)).size ≤ 600 := Nat.le_trans (S_pow_size hs1) (by omega)
  have hY : (S n2).size ≤ 600 := by omega
  have p3 := p2
  have HS := Lib.hid (fun w => shift_ok (n := n1) (k := k) (k : Int) rfl w (by omega))
  have hq : (S (n1 * 10 ^ k / n2)).size ≤ 600 := S_less hX (Nat.div_le_self _ _)
  have hrl : n1 * 10 ^ k % n2 < n2 := Nat.mod_lt _ p3
  have HQ := Lib.hid (fun w => quo_any (n1 * 10 ^ k) n2 w hX hY p3)
  have HR := Lib.hid (fun w => raises_any (n1 * 10 ^ k / n2) (n1 * 10 ^ k % n2) n2 (g1 != g2) w m hm hrl hY (by omega))
  rw [hu] at HR
  have hr : n1 * 10 ^ k % n2 ≠ 0 := fun h => by rw [h, up_0] at hu; cases hu
  have hq1 : (S (n1 * 10 ^ k / n2 + 1)).size ≤ 600 := q_fits (by omega) hX p3 hr
  have HA := Lib.hid (fun w => add_any (n1 * 10 ^ k / n2) 1 w hq (by decide))
  rw [show limS (n1 * 10 ^ k / n2 + 1) = n1 * 10 ^ k / n2 + 1 by unfold limS; rw [if_pos (by rw [← S_size]; exact hq1)], show limE (n1 * 10 ^ k / n2 + 1) = 0 by unfold limE; rw [if_pos (by rw [← S_size]; exact hq1)], show S 1 = ⟨#[49]⟩ from rfl] at HA
  have hpp : IntKind.i64.wrap (-p) = -p := IntWalk.i64_in _ (by omega)
  have HM := Lib.hid (fun w => make_any (g1 != g2) (S (n1 * 10 ^ k / n2 + 1)) (n1 * 10 ^ k / n2 + 1) (-p) w (Num_S _) (by omega) (by omega))
  obtain ⟨ra, ha⟩ : ∃ a, nG (g1 != g2) (n1 * 10 ^ k / n2 + 1) (-p) = a := ⟨_, rfl⟩
  obtain ⟨rb, hb⟩ : ∃ b, S (nN (n1 * 10 ^ k / n2 + 1) (-p)) = b := ⟨_, rfl⟩
  obtain ⟨rc, hc⟩ : ∃ c, nX (n1 * 10 ^ k / n2 + 1) (-p) = c := ⟨_, rfl⟩
  obtain ⟨rd, hd⟩ : ∃ d, nE (n1 * 10 ^ k / n2 + 1) (-p) = d := ⟨_, rfl⟩
  rw [ha, hb, hc, hd] at HM ⊢
  clear ha hb hc hd
  clear h1 h2 hrl hu hr hq1
  generalize S (n1 * 10 ^ k / n2 + 1) = Q1 at *
  generalize S (n1 * 10 ^ k / n2) = Q at *
  generalize S (n1 * 10 ^ k % n2) = R at *
  generalize S (n1 * 10 ^ k) = X at *
  obtain ⟨ng, hng0⟩ : ∃ b, (g1 != g2) = b := ⟨_, rfl⟩
  rw [hng0] at HR HM
  have hng : (!(g1 == g2)) = ng := hng0
  clear hng0
  have T := HT.out
  go_enter Tryd.func6, Tryd.ntmps6
  go_wp2_with (first | (go_at_call 15; first | ((with_reducible refine (HV1.out _).mono ?_); rintro e w1 ⟨rfl, hX⟩; have T := T.step hX; clear hX; obtain ⟨a0, a1, a2⟩ := T.a.cells; obtain ⟨b0, b1, b2⟩ := T.b.cells; obtain ⟨c0, c1, c2⟩ := T.c.cells; have y0 := T.c.fz 0; have y1 := T.c.fz 1; have y2 := T.c.fz 2) | ((with_reducible refine (HV2.out _).mono ?_); rintro e w1 ⟨rfl, hX⟩; have T := T.step hX; clear hX; obtain ⟨a0, a1, a2⟩ := T.a.cells; obtain ⟨b0, b1, b2⟩ := T.b.cells; obtain ⟨c0, c1, c2⟩ := T.c.cells; have y0 := T.c.fz 0; have y1 := T.c.fz 1; have y2 := T.c.fz 2)))
  go_quiet (fail)
  have T := T.dn nq
  go_wp2_with (first | (go_at_call 17; (with_reducible refine (HS.out _).mono ?_); rintro e w1 ⟨rfl, hX⟩; have T := T.step hX; clear hX; obtain ⟨a0, a1, a2⟩ := T.a.cells; obtain ⟨b0, b1, b2⟩ := T.b.cells; obtain ⟨c0, c1, c2⟩ := T.c.cells; have y0 := T.c.fz 0; have y1 := T.c.fz 1; have y2 := T.c.fz 2) | (go_at_call 18; (with_reducible refine (HQ.out _).mono ?_); rintro e w1 ⟨rfl, hX⟩; have T := T.step hX; clear hX; obtain ⟨a0, a1, a2⟩ := T.a.cells; obtain ⟨b0, b1, b2⟩ := T.b.cells; obtain ⟨c0, c1, c2⟩ := T.c.cells; have y0 := T.c.fz 0; have y1 := T.c.fz 1; have y2 := T.c.fz 2) | (go_at_call 19; (with_reducible refine (HR.out _).mono ?_); rintro e w1 ⟨rfl, hX⟩; have T := T.step hX; clear hX; obtain ⟨a0, a1, a2⟩ := T.a.cells; obtain ⟨b0, b1, b2⟩ := T.b.cells; obtain ⟨c0, c1, c2⟩ := T.c.cells; have y0 := T.c.fz 0; have y1 := T.c.fz 1; have y2 := T.c.fz 2) | (go_at_call 20; (with_reducible refine (HA.out _).mono ?_); rintro e w1 ⟨rfl, hX⟩; have T := T.step hX; clear hX; obtain ⟨a0, a1, a2⟩ := T.a.cells; obtain ⟨b0, b1, b2⟩ := T.b.cells; obtain ⟨c0, c1, c2⟩ := T.c.cells; have y0 := T.c.fz 0; have y1 := T.c.fz 1; have y2 := T.c.fz 2) | (go_at_call 21; (with_reducible refine (HM.out _).mono ?_); rintro e w1 ⟨rfl, hX⟩; have T := T.step hX; clear hX; obtain ⟨a0, a1, a2⟩ := T.a.cells; obtain ⟨b0, b1, b2⟩ := T.b.cells; obtain ⟨c0, c1, c2⟩ := T.c.cells; have y0 := T.c.fz 0; have y1 := T.c.fz 1; have y2 := T.c.fz 2))
  exact bodyPost_ret (v := .tuple #[.agg #[.bool ra, .string rb, .int .i64 rc], .int .i64 rd]) (by simp [results, Tryd.results6, go_sem, c0, c1, c2]) rfl ⟨rfl, ((T.bel.setCell (by simp; try omega) _).setCell (by simp; try omega) _).setCell (by simp; try omega) _⟩
set_option maxRecDepth 100000 in
set_option maxHeartbeats 8000000 in
theorem qu_near0 (g1 : Bool) (n1 : Nat) (x1 : Int) (g2 : Bool) (n2 : Nat) (x2 p m : Int) (w : World) (h1 : okD g1 n1 x1) (h2 : okD g2 n2 x2) (hm : 0 ≤ m ∧ m ≤ 4) (hp : -400 ≤ p ∧ p ≤ 400) (p2 : 0 < n2) (k : Nat) (hc : x1 - x2 + p = (k : Int)) (hk : k ≤ 480) (hu : upB (g1 != g2) (n1 * 10 ^ k / n2) (n1 * 10 ^ k % n2) n2 m = false) : Calls Tryd.prog 6 #[.agg #[.bool g1, .string (S n1), .int .i64 x1], .agg #[.bool g2, .string (S n2), .int .i64 x2], .int .i64 p, .int .i64 m] w fun e w' => e = .returned (.tuple #[.agg #[.bool (nG (g1 != g2) (n1 * 10 ^ k / n2) (-p)), .string (S (nN (n1 * 10 ^ k / n2) (-p))), .int .i64 (nX (n1 * 10 ^ k / n2) (-p))], .int .i64 (nE (n1 * 10 ^ k / n2) (-p))]) ∧ Below w.heap.size w w' := by
  obtain ⟨hs1, hx1, hx2⟩ := ok_size h1
  obtain ⟨hs2, hx3, hx4⟩ := ok_size h2
  have HT := Lib.hid (T3.new w g1 (S n1) x1 g2 (S n2) x2)
  have HV1 := Lib.hid (fun w => dvalid_ok w h1)
  have HV2 := Lib.hid (fun w => dvalid_ok w h2)
  have e3 := tl_ne (S_pos p2)
  have e4 := tl_ne' (S_pos p2)
  have s1 : IntKind.i64.wrap (x1 - x2) = x1 - x2 := IntWalk.i64_in _ (by omega)
  have s2 : IntKind.i64.wrap (x1 - x2 + p) = (k : Int) := by rw [← hc]; exact IntWalk.i64_in _ (by omega)
  have hX : (S (n1 * 10 ^ k)).size ≤ 600 := Nat.le_trans (S_pow_size hs1) (by omega)
  have hY : (S n2).size ≤ 600 := by omega
  have p3 := p2
  have HS := Lib.hid (fun w => shift_ok (n := n1) (k := k) (k : Int) rfl w (by omega))
  have hq : (S (n1 * 10 ^ k / n2)).size ≤ 600 := S_less hX (Nat.div_le_self _ _)
  have hrl : n1 * 10 ^ k % n2 < n2 := Nat.mod_lt _ p3
  have HQ := Lib.hid (fun w => quo_any (n1 * 10 ^ k) n2 w hX hY p3)
  have HR := Lib.hid (fun w => raises_any (n1 * 10 ^ k / n2) (n1 * 10 ^ k % n2) n2 (g1 != g2) w m hm hrl hY (by omega))
  rw [hu] at HR
  have hpp : IntKind.i64.wrap (-p) = -p := IntWalk.i64_in _ (by omega)
  have HM := Lib.hid (fun w => make_any (g1 != g2) (S (n1 * 10 ^ k / n2)) (n1 * 10 ^ k / n2) (-p) w (Num_S _) (by omega) (by omega))
  obtain ⟨ra, ha⟩ : ∃ a, nG (g1 != g2) (n1 * 10 ^ k / n2) (-p) = a := ⟨_, rfl⟩
  obtain ⟨rb, hb⟩ : ∃ b, S (nN (n1 * 10 ^ k / n2) (-p)) = b := ⟨_, rfl⟩
  obtain ⟨rc, hc⟩ : ∃ c, nX (n1 * 10 ^ k / n2) (-p) = c := ⟨_, rfl⟩
  obtain ⟨rd, hd⟩ : ∃ d, nE (n1 * 10 ^ k / n2) (-p) = d := ⟨_, rfl⟩
  rw [ha, hb, hc, hd] at HM ⊢
  clear ha hb hc hd
  clear h1 h2 hrl hu
  generalize S (n1 * 10 ^ k / n2) = Q at *
  generalize S (n1 * 10 ^ k % n2) = R at *
  generalize S (n1 * 10 ^ k) = X at *
  obtain ⟨ng, hng0⟩ : ∃ b, (g1 != g2) = b := ⟨_, rfl⟩
  rw [hng0] at HR HM
  have hng : (!(g1 == g2)) = ng := hng0
  clear hng0
  have T := HT.out
  go_enter Tryd.func6, Tryd.ntmps6
  go_wp2_with (first | (go_at_call 15; first | ((with_reducible refine (HV1.out _).mono ?_); rintro e w1 ⟨rfl, hX⟩; have T := T.step hX; clear hX; obtain ⟨a0, a1, a2⟩ := T.a.cells; obtain ⟨b0, b1, b2⟩ := T.b.cells; obtain ⟨c0, c1, c2⟩ := T.c.cells; have y0 := T.c.fz 0; have y1 := T.c.fz 1; have y2 := T.c.fz 2) | ((with_reducible refine (HV2.out _).mono ?_); rintro e w1 ⟨rfl, hX⟩; have T := T.step hX; clear hX; obtain ⟨a0, a1, a2⟩ := T.a.cells; obtain ⟨b0, b1, b2⟩ := T.b.cells; obtain ⟨c0, c1, c2⟩ := T.c.cells; have y0 := T.c.fz 0; have y1 := T.c.fz 1; have y2 := T.c.fz 2)))
  go_quiet (fail)
  have T := T.dn nq
  go_wp2_with (first | (go_at_call 17; (with_reducible refine (HS.out _).mono ?_); rintro e w1 ⟨rfl, hX⟩; have T := T.step hX; clear hX; obtain ⟨a0, a1, a2⟩ := T.a.cells; obtain ⟨b0, b1, b2⟩ := T.b.cells; obtain ⟨c0, c1, c2⟩ := T.c.cells; have y0 := T.c.fz 0; have y1 := T.c.fz 1; have y2 := T.c.fz 2) | (go_at_call 18; (with_reducible refine (HQ.out _).mono ?_); rintro e w1 ⟨rfl, hX⟩; have T := T.step hX; clear hX; obtain ⟨a0, a1, a2⟩ := T.a.cells; obtain ⟨b0, b1, b2⟩ := T.b.cells; obtain ⟨c0, c1, c2⟩ := T.c.cells; have y0 := T.c.fz 0; have y1 := T.c.fz 1; have y2 := T.c.fz 2) | (go_at_call 19; (with_reducible refine (HR.out _).mono ?_); rintro e w1 ⟨rfl, hX⟩; have T := T.step hX; clear hX; obtain ⟨a0, a1, a2⟩ := T.a.cells; obtain ⟨b0, b1, b2⟩ := T.b.cells; obtain ⟨c0, c1, c2⟩ := T.c.cells; have y0 := T.c.fz 0; have y1 := T.c.fz 1; have y2 := T.c.fz 2) | fail | (go_at_call 21; (with_reducible refine (HM.out _).mono ?_); rintro e w1 ⟨rfl, hX⟩; have T := T.step hX; clear hX; obtain ⟨a0, a1, a2⟩ := T.a.cells; obtain ⟨b0, b1, b2⟩ := T.b.cells; obtain ⟨c0, c1, c2⟩ := T.c.cells; have y0 := T.c.fz 0; have y1 := T.c.fz 1; have y2 := T.c.fz 2))
  exact bodyPost_ret (v := .tuple #[.agg #[.bool ra, .string rb, .int .i64 rc], .int .i64 rd]) (by simp [results, Tryd.results6, go_sem, c0, c1, c2]) rfl ⟨rfl, ((T.bel.setCell (by simp; try omega) _).setCell (by simp; try omega) _).setCell (by simp; try omega) _⟩
set_option maxRecDepth 100000 in
set_option maxHeartbeats 8000000 in
theorem qu_low1 (g1 : Bool) (n1 : Nat) (x1 : Int) (g2 : Bool) (n2 : Nat) (x2 p m : Int) (w : World) (h1 : okD g1 n1 x1) (h2 : okD g2 n2 x2) (hm : 0 ≤ m ∧ m ≤ 4) (hp : -400 ≤ p ∧ p ≤ 400) (p2 : 0 < n2) (k s : Nat) (hc : x1 - x2 + p = -(k : Int)) (hk : 0 < k) (hs : min k 480 = s) (hu : upB (g1 != g2) (n1 / (n2 * 10 ^ s)) (n1 % (n2 * 10 ^ s)) (n2 * 10 ^ s) m = true) : Calls Tryd.prog 6 #[.agg #[.bool g1, .string (S n1), .int .i64 x1], .agg #[.bool g2, .string (S n2), .int .i64 x2], .int .i64 p, .int .i64 m] w fun e w' => e = .returned (.tuple #[.agg #[.bool (nG (g1 != g2) (n1 / (n2 * 10 ^ s) + 1) (-p)), .string (S (nN (n1 / (n2 * 10 ^ s) + 1) (-p))), .int .i64 (nX (n1 / (n2 * 10 ^ s) + 1) (-p))], .int .i64 (nE (n1 / (n2 * 10 ^ s) + 1) (-p))]) ∧ Below w.heap.size w w' := by
  obtain ⟨hs1, hx1, hx2⟩ := ok_size h1
  obtain ⟨hs2, hx3, hx4⟩ := ok_size h2
  have HT := Lib.hid (T3.new w g1 (S n1) x1 g2 (S n2) x2)
  have HV1 := Lib.hid (fun w => dvalid_ok w h1)
  have HV2 := Lib.hid (fun w => dvalid_ok w h2)
  have e3 := tl_ne (S_pos p2)
  have e4 := tl_ne' (S_pos p2)
  have s1 : IntKind.i64.wrap (x1 - x2) = x1 - x2 := IntWalk.i64_in _ (by omega)
  have s2 : IntKind.i64.wrap (x1 - x2 + p) = -(k : Int) := by rw [← hc]; exact IntWalk.i64_in _ (by omega)
  have s3 : IntKind.i64.wrap (- -(k : Int)) = (k : Int) := by rw [Int.neg_neg]; exact IntWalk.i64_in _ (by omega)
  have s4 : IntKind.i64.wrap (k : Int) = (k : Int) := IntWalk.i64_in _ (by omega)
  have s5 : min (k : Int) 480 = (s : Int) := by omega
  have hX : (S n1).size ≤ 600 := by omega
  have hY : (S (n2 * 10 ^ s)).size ≤ 600 := Nat.le_trans (S_pow_size hs2) (by omega)
  have p3 : 0 < (n2 * 10 ^ s) := Nat.mul_pos p2 (pow_pos' s)
  have HS := Lib.hid (fun w => shift_ok (n := n2) (k := s) (s : Int) rfl w (by omega))
  have hq : (S (n1 / (n2 * 10 ^ s))).size ≤ 600 := S_less hX (Nat.div_le_self _ _)
  have hrl : n1 % (n2 * 10 ^ s) < (n2 * 10 ^ s) := Nat.mod_lt _ p3
  have HQ := Lib.hid (fun w => quo_any (n1) (n2 * 10 ^ s) w hX hY p3)
  have HR := Lib.hid (fun w => raises_any (n1 / (n2 * 10 ^ s)) (n1 % (n2 * 10 ^ s)) (n2 * 10 ^ s) (g1 != g2) w m hm hrl hY (by omega))
  rw [hu] at HR
  have hr : n1 % (n2 * 10 ^ s) ≠ 0 := fun h => by rw [h, up_0] at hu; cases hu
  have hq1 : (S (n1 / (n2 * 10 ^ s) + 1)).size ≤ 600 := q_fits (by omega) hX p3 hr
  have HA := Lib.hid (fun w => add_any (n1 / (n2 * 10 ^ s)) 1 w hq (by decide))
  rw [show limS (n1 / (n2 * 10 ^ s) + 1) = n1 / (n2 * 10 ^ s) + 1 by unfold limS; rw [if_pos (by rw [← S_size]; exact hq1)], show limE (n1 / (n2 * 10 ^ s) + 1) = 0 by unfold limE; rw [if_pos (by rw [← S_size]; exact hq1)], show S 1 = ⟨#[49]⟩ from rfl] at HA
  have hpp : IntKind.i64.wrap (-p) = -p := IntWalk.i64_in _ (by omega)
  have HM := Lib.hid (fun w => make_any (g1 != g2) (S (n1 / (n2 * 10 ^ s) + 1)) (n1 / (n2 * 10 ^ s) + 1) (-p) w (Num_S _) (by omega) (by omega))
  obtain ⟨ra, ha⟩ : ∃ a, nG (g1 != g2) (n1 / (n2 * 10 ^ s) + 1) (-p) = a := ⟨_, rfl⟩
  obtain ⟨rb, hb⟩ : ∃ b, S (nN (n1 / (n2 * 10 ^ s) + 1) (-p)) = b := ⟨_, rfl⟩
  obtain ⟨rc, hc⟩ : ∃ c, nX (n1 / (n2 * 10 ^ s) + 1) (-p) = c := ⟨_, rfl⟩
  obtain ⟨rd, hd⟩ : ∃ d, nE (n1 / (n2 * 10 ^ s) + 1) (-p) = d := ⟨_, rfl⟩
  rw [ha, hb, hc, hd] at HM ⊢
  clear ha hb hc hd
  clear h1 h2 hrl hu hr hq1 hY p3 hs
  generalize S (n1 / (n2 * 10 ^ s) + 1) = Q1 at *
  generalize S (n1 / (n2 * 10 ^ s)) = Q at *
  generalize S (n1 % (n2 * 10 ^ s)) = R at *
  generalize S (n2 * 10 ^ s) = X at *
  obtain ⟨ng, hng0⟩ : ∃ b, (g1 != g2) = b := ⟨_, rfl⟩
  rw [hng0] at HR HM
  have hng : (!(g1 == g2)) = ng := hng0
  clear hng0
  have T := HT.out
  go_enter Tryd.func6, Tryd.ntmps6
  go_wp2_with (first | (go_at_call 15; first | ((with_reducible refine (HV1.out _).mono ?_); rintro e w1 ⟨rfl, hX⟩; have T := T.step hX; clear hX; obtain ⟨a0, a1, a2⟩ := T.a.cells; obtain ⟨b0, b1, b2⟩ := T.b.cells; obtain ⟨c0, c1, c2⟩ := T.c.cells; have y0 := T.c.fz 0; have y1 := T.c.fz 1; have y2 := T.c.fz 2) | ((with_reducible refine (HV2.out _).mono ?_); rintro e w1 ⟨rfl, hX⟩; have T := T.step hX; clear hX; obtain ⟨a0, a1, a2⟩ := T.a.cells; obtain ⟨b0, b1, b2⟩ := T.b.cells; obtain ⟨c0, c1, c2⟩ := T.c.cells; have y0 := T.c.fz 0; have y1 := T.c.fz 1; have y2 := T.c.fz 2)))
  go_quiet (fail)
  have T := T.dn nq
  go_wp2_with (first | (go_at_call 17; (with_reducible refine (HS.out _).mono ?_); rintro e w1 ⟨rfl, hX⟩; have T := T.step hX; clear hX; obtain ⟨a0, a1, a2⟩ := T.a.cells; obtain ⟨b0, b1, b2⟩ := T.b.cells; obtain ⟨c0, c1, c2⟩ := T.c.cells; have y0 := T.c.fz 0; have y1 := T.c.fz 1; have y2 := T.c.fz 2) | (go_at_call 18; (with_reducible refine (HQ.out _).mono ?_); rintro e w1 ⟨rfl, hX⟩; have T := T.step hX; clear hX; obtain ⟨a0, a1, a2⟩ := T.a.cells; obtain ⟨b0, b1, b2⟩ := T.b.cells; obtain ⟨c0, c1, c2⟩ := T.c.cells; have y0 := T.c.fz 0; have y1 := T.c.fz 1; have y2 := T.c.fz 2) | (go_at_call 19; (with_reducible refine (HR.out _).mono ?_); rintro e w1 ⟨rfl, hX⟩; have T := T.step hX; clear hX; obtain ⟨a0, a1, a2⟩ := T.a.cells; obtain ⟨b0, b1, b2⟩ := T.b.cells; obtain ⟨c0, c1, c2⟩ := T.c.cells; have y0 := T.c.fz 0; have y1 := T.c.fz 1; have y2 := T.c.fz 2) | (go_at_call 20; (with_reducible refine (HA.out _).mono ?_); rintro e w1 ⟨rfl, hX⟩; have T := T.step hX; clear hX; obtain ⟨a0, a1, a2⟩ := T.a.cells; obtain ⟨b0, b1, b2⟩ := T.b.cells; obtain ⟨c0, c1, c2⟩ := T.c.cells; have y0 := T.c.fz 0; have y1 := T.c.fz 1; have y2 := T.c.fz 2) | (go_at_call 21; (with_reducible refine (HM.out _).mono ?_); rintro e w1 ⟨rfl, hX⟩; have T := T.step hX; clear hX; obtain ⟨a0, a1, a2⟩ := T.a.cells; obtain ⟨b0, b1, b2⟩ := T.b.cells; obtain ⟨c0, c1, c2⟩ := T.c.cells; have y0 := T.c.fz 0; have y1 := T.c.fz 1; have y2 := T.c.fz 2))
  exact bodyPost_ret (v := .tuple #[.agg #[.bool ra, .string rb, .int .i64 rc], .int .i64 rd]) (by simp [results, Tryd.results6, go_sem, c0, c1, c2]) rfl ⟨rfl, ((T.bel.setCell (by simp; try omega) _).setCell (by simp; try omega) _).setCell (by simp; try omega) _⟩
set_option maxRecDepth 100000 in
set_option maxHeartbeats 8000000 in
theorem qu_low0 (g1 : Bool) (n1 : Nat) (x1 : Int) (g2 : Bool) (n2 : Nat) (x2 p m : Int) (w : World) (h1 : okD g1 n1 x1) (h2 : okD g2 n2 x2) (hm : 0 ≤ m ∧ m ≤ 4) (hp : -400 ≤ p ∧ p ≤ 400) (p2 : 0 < n2) (k s : Nat) (hc : x1 - x2 + p = -(k : Int)) (hk : 0 < k) (hs : min k 480 = s) (hu : upB (g1 != g2) (n1 / (n2 * 10 ^ s)) (n1 % (n2 * 10 ^ s)) (n2 * 10 ^ s) m = false) : Calls Tryd.prog 6 #[.agg #[.bool g1, .string (S n1), .int .i64 x1], .agg #[.bool g2, .string (S n2), .int .i64 x2], .int .i64 p, .int .i64 m] w fun e w' => e = .returned (.tuple #[.agg #[.bool (nG (g1 != g2) (n1 / (n2 * 10 ^ s)) (-p)), .string (S (nN (n1 / (n2 * 10 ^ s)) (-p))), .int .i64 (nX (n1 / (n2 * 10 ^ s)) (-p))], .int .i64 (nE (n1 / (n2 * 10 ^ s)) (-p))]) ∧ Below w.heap.size w w' := by
  obtain ⟨hs1, hx1, hx2⟩ := ok_size h1
  obtain ⟨hs2, hx3, hx4⟩ := ok_size h2
  have HT := Lib.hid (T3.new w g1 (S n1) x1 g2 (S n2) x2)
  have HV1 := Lib.hid (fun w => dvalid_ok w h1)
  have HV2 := Lib.hid (fun w => dvalid_ok w h2)
  have e3 := tl_ne (S_pos p2)
  have e4 := tl_ne' (S_pos p2)
  have s1 : IntKind.i64.wrap (x1 - x2) = x1 - x2 := IntWalk.i64_in _ (by omega)
  have s2 : IntKind.i64.wrap (x1 - x2 + p) = -(k : Int) := by rw [← hc]; exact IntWalk.i64_in _ (by omega)
  have s3 : IntKind.i64.wrap (- -(k : Int)) = (k : Int) := by rw [Int.neg_neg]; exact IntWalk.i64_in _ (by omega)
  have s4 : IntKind.i64.wrap (k : Int) = (k : Int) := IntWalk.i64_in _ (by omega)
  have s5 : min (k : Int) 480 = (s : Int) := by omega
  have hX : (S n1).size ≤ 600 := by omega
  have hY : (S (n2 * 10 ^ s)).size ≤ 600 := Nat.le_trans (S_pow_size hs2) (by omega)
  have p3 : 0 < (n2 * 10 ^ s) := Nat.mul_pos p2 (pow_pos' s)
  have HS := Lib.hid (fun w => shift_ok (n := n2) (k := s) (s : Int) rfl w (by omega))
  have hq : (S (n1 / (n2 * 10 ^ s))).size ≤ 600 := S_less hX (Nat.div_le_self _ _)
  have hrl : n1 % (n2 * 10 ^ s) < (n2 * 10 ^ s) := Nat.mod_lt _ p3
  have HQ := Lib.hid (fun w => quo_any (n1) (n2 * 10 ^ s) w hX hY p3)
  have HR := Lib.hid (fun w => raises_any (n1 / (n2 * 10 ^ s)) (n1 % (n2 * 10 ^ s)) (n2 * 10 ^ s) (g1 != g2) w m hm hrl hY (by omega))
  rw [hu] at HR
  have hpp : IntKind.i64.wrap (-p) = -p := IntWalk.i64_in _ (by omega)
  have HM := Lib.hid (fun w => make_any (g1 != g2) (S (n1 / (n2 * 10 ^ s))) (n1 / (n2 * 10 ^ s)) (-p) w (Num_S _) (by omega) (by omega))
  obtain ⟨ra, ha⟩ : ∃ a, nG (g1 != g2) (n1 / (n2 * 10 ^ s)) (-p) = a := ⟨_, rfl⟩
  obtain ⟨rb, hb⟩ : ∃ b, S (nN (n1 / (n2 * 10 ^ s)) (-p)) = b := ⟨_, rfl⟩
  obtain ⟨rc, hc⟩ : ∃ c, nX (n1 / (n2 * 10 ^ s)) (-p) = c := ⟨_, rfl⟩
  obtain ⟨rd, hd⟩ : ∃ d, nE (n1 / (n2 * 10 ^ s)) (-p) = d := ⟨_, rfl⟩
  rw [ha, hb, hc, hd] at HM ⊢
  clear ha hb hc hd
  clear h1 h2 hrl hu hY p3 hs
  generalize S (n1 / (n2 * 10 ^ s)) = Q at *
  generalize S (n1 % (n2 * 10 ^ s)) = R at *
  generalize S (n2 * 10 ^ s) = X at *
  obtain ⟨ng, hng0⟩ : ∃ b, (g1 != g2) = b := ⟨_, rfl⟩
  rw [hng0] at HR HM
  have hng : (!(g1 == g2)) = ng := hng0
  clear hng0
  have T := HT.out
  go_enter Tryd.func6, Tryd.ntmps6
  go_wp2_with (first | (go_at_call 15; first | ((with_reducible refine (HV1.out _).mono ?_); rintro e w1 ⟨rfl, hX⟩; have T := T.step hX; clear hX; obtain ⟨a0, a1, a2⟩ := T.a.cells; obtain ⟨b0, b1, b2⟩ := T.b.cells; obtain ⟨c0, c1, c2⟩ := T.c.cells; have y0 := T.c.fz 0; have y1 := T.c.fz 1; have y2 := T.c.fz 2) | ((with_reducible refine (HV2.out _).mono ?_); rintro e w1 ⟨rfl, hX⟩; have T := T.step hX; clear hX; obtain ⟨a0, a1, a2⟩ := T.a.cells; obtain ⟨b0, b1, b2⟩ := T.b.cells; obtain ⟨c0, c1, c2⟩ := T.c.cells; have y0 := T.c.fz 0; have y1 := T.c.fz 1; have y2 := T.c.fz 2)))
  go_quiet (fail)
  have T := T.dn nq
  go_wp2_with (first | (go_at_call 17; (with_reducible refine (HS.out _).mono ?_); rintro e w1 ⟨rfl, hX⟩; have T := T.step hX; clear hX; obtain ⟨a0, a1, a2⟩ := T.a.cells; obtain ⟨b0, b1, b2⟩ := T.b.cells; obtain ⟨c0, c1, c2⟩ := T.c.cells; have y0 := T.c.fz 0; have y1 := T.c.fz 1; have y2 := T.c.fz 2) | (go_at_call 18; (with_reducible refine (HQ.out _).mono ?_); rintro e w1 ⟨rfl, hX⟩; have T := T.step hX; clear hX; obtain ⟨a0, a1, a2⟩ := T.a.cells; obtain ⟨b0, b1, b2⟩ := T.b.cells; obtain ⟨c0, c1, c2⟩ := T.c.cells; have y0 := T.c.fz 0; have y1 := T.c.fz 1; have y2 := T.c.fz 2) | (go_at_call 19; (with_reducible refine (HR.out _).mono ?_); rintro e w1 ⟨rfl, hX⟩; have T := T.step hX; clear hX; obtain ⟨a0, a1, a2⟩ := T.a.cells; obtain ⟨b0, b1, b2⟩ := T.b.cells; obtain ⟨c0, c1, c2⟩ := T.c.cells; have y0 := T.c.fz 0; have y1 := T.c.fz 1; have y2 := T.c.fz 2) | fail | (go_at_call 21; (with_reducible refine (HM.out _).mono ?_); rintro e w1 ⟨rfl, hX⟩; have T := T.step hX; clear hX; obtain ⟨a0, a1, a2⟩ := T.a.cells; obtain ⟨b0, b1, b2⟩ := T.b.cells; obtain ⟨c0, c1, c2⟩ := T.c.cells; have y0 := T.c.fz 0; have y1 := T.c.fz 1; have y2 := T.c.fz 2))
  exact bodyPost_ret (v := .tuple #[.agg #[.bool ra, .string rb, .int .i64 rc], .int .i64 rd]) (by simp [results, Tryd.results6, go_sem, c0, c1, c2]) rfl ⟨rfl, ((T.bel.setCell (by simp; try omega) _).setCell (by simp; try omega) _).setCell (by simp; try omega) _⟩
set_option maxRecDepth 100000 in
set_option maxHeartbeats 8000000 in
theorem qu_farno (g1 : Bool) (n1 : Nat) (x1 : Int) (g2 : Bool) (n2 : Nat) (x2 p m : Int) (w : World) (h1 : okD g1 n1 x1) (h2 : okD g2 n2 x2) (hm : 0 ≤ m ∧ m ≤ 4) (hp : -400 ≤ p ∧ p ≤ 400) (p2 : 0 < n2) (hB : 480 < x1 - x2 + p) (k : Nat) (hk : k = 400) (hr : n1 * 10 ^ k % n2 ≠ 0) : Calls Tryd.prog 6 #[.agg #[.bool g1, .string (S n1), .int .i64 x1], .agg #[.bool g2, .string (S n2), .int .i64 x2], .int .i64 p, .int .i64 m] w fun e w' => e = .returned (.tuple #[.agg #[.bool false, .string ⟨#[]⟩, .int .i64 0], .int .i64 2]) ∧ Below w.heap.size w w' := by
  obtain ⟨hs1, hx1, hx2⟩ := ok_size h1
  obtain ⟨hs2, hx3, hx4⟩ := ok_size h2
  have HT := Lib.hid (T3.new w g1 (S n1) x1 g2 (S n2) x2)
  have HV1 := Lib.hid (fun w => dvalid_ok w h1)
  have HV2 := Lib.hid (fun w => dvalid_ok w h2)
  have e3 := tl_ne (S_pos p2)
  have e4 := tl_ne' (S_pos p2)
  have s1 : IntKind.i64.wrap (x1 - x2) = x1 - x2 := IntWalk.i64_in _ (by omega)
  have s2 : IntKind.i64.wrap (x1 - x2 + p) = x1 - x2 + p := IntWalk.i64_in _ (by omega)
  have HD := Lib.hid (fun w => ddiv_no g1 n1 x1 g2 n2 x2 w h1 h2 k hk p2 hr)
  clear h1 h2 hr
  have T := HT.out
  go_enter Tryd.func6, Tryd.ntmps6
  go_wp2_with (first | (go_at_call 15; first | ((with_reducible refine (HV1.out _).mono ?_); rintro e w1 ⟨rfl, hX⟩; have T := T.step hX; clear hX; obtain ⟨a0, a1, a2⟩ := T.a.cells; obtain ⟨b0, b1, b2⟩ := T.b.cells; obtain ⟨c0, c1, c2⟩ := T.c.cells; have y0 := T.c.fz 0; have y1 := T.c.fz 1; have y2 := T.c.fz 2) | ((with_reducible refine (HV2.out _).mono ?_); rintro e w1 ⟨rfl, hX⟩; have T := T.step hX; clear hX; obtain ⟨a0, a1, a2⟩ := T.a.cells; obtain ⟨b0, b1, b2⟩ := T.b.cells; obtain ⟨c0, c1, c2⟩ := T.c.cells; have y0 := T.c.fz 0; have y1 := T.c.fz 1; have y2 := T.c.fz 2)) | (go_at_call 16; (with_reducible refine (HD.out _).mono ?_); rintro e w1 ⟨rfl, hX⟩; have T := T.step hX; clear hX; have C := T.c.alloc (.cells #[.bool false, .string ⟨#[]⟩, .int .i64 0] 23); obtain ⟨c0, c1, c2⟩ := C.cells; have y0 := C.fz 0; have y1 := C.fz 1; have y2 := C.fz 2; have D := DC.new w1 false ⟨#[]⟩ 0; obtain ⟨d0, d1, d2⟩ := D.cells; have bl := T.bel.alloc T.bel.size (.cells #[.bool false, .string ⟨#[]⟩, .int .i64 0] 23); clear T))
  exact bodyPost_ret (v := .tuple #[.agg #[.bool false, .string ⟨#[]⟩, .int .i64 0], .int .i64 2]) (by simp [results, Tryd.results6, go_sem, c0, c1, c2]) rfl ⟨rfl, ((bl.setCell (by simp; try omega) _).setCell (by simp; try omega) _).setCell (by simp; try omega) _⟩
theorem nE_no (n : Nat) (x : Int) : nE n x = 0 ∨ nE n x = 2 := by unfold nE; split <;> simp
set_option maxRecDepth 100000 in
set_option maxHeartbeats 8000000 in
theorem qu_faryes (g1 : Bool) (n1 : Nat) (x1 : Int) (g2 : Bool) (n2 : Nat) (x2 p m : Int) (w : World) (h1 : okD g1 n1 x1) (h2 : okD g2 n2 x2) (hm : 0 ≤ m ∧ m ≤ 4) (hp : -400 ≤ p ∧ p ≤ 400) (p2 : 0 < n2) (hB : 480 < x1 - x2 + p) (k : Nat) (hk : k = 400) (hr : n1 * 10 ^ k % n2 = 0) : Calls Tryd.prog 6 #[.agg #[.bool g1, .string (S n1), .int .i64 x1], .agg #[.bool g2, .string (S n2), .int .i64 x2], .int .i64 p, .int .i64 m] w fun e w' => e = .returned (.tuple #[.agg #[.bool (nG (g1 != g2) (n1 * 10 ^ k / n2) (x1 - x2 - 400)), .string (S (nN (n1 * 10 ^ k / n2) (x1 - x2 - 400))), .int .i64 (nX (n1 * 10 ^ k / n2) (x1 - x2 - 400))], .int .i64 (nE (n1 * 10 ^ k / n2) (x1 - x2 - 400))]) ∧ Below w.heap.size w w' := by
  obtain ⟨hs1, hx1, hx2⟩ := ok_size h1
  obtain ⟨hs2, hx3, hx4⟩ := ok_size h2
  have HT := Lib.hid (T3.new w g1 (S n1) x1 g2 (S n2) x2)
  have HV1 := Lib.hid (fun w => dvalid_ok w h1)
  have HV2 := Lib.hid (fun w => dvalid_ok w h2)
  have e3 := tl_ne (S_pos p2)
  have e4 := tl_ne' (S_pos p2)
  have s1 : IntKind.i64.wrap (x1 - x2) = x1 - x2 := IntWalk.i64_in _ (by omega)
  have s2 : IntKind.i64.wrap (x1 - x2 + p) = x1 - x2 + p := IntWalk.i64_in _ (by omega)
  have HM := Lib.hid (fun w => ddiv_yes g1 n1 x1 g2 n2 x2 w h1 h2 k hk p2 hr)
  have h15 : nE (n1 * 10 ^ k / n2) (x1 - x2 - 400) ≠ 15 := by rcases nE_no (n1 * 10 ^ k / n2) (x1 - x2 - 400) with h | h <;> rw [h] <;> decide
  obtain ⟨ra, ha⟩ : ∃ a, nG (g1 != g2) (n1 * 10 ^ k / n2) (x1 - x2 - 400) = a := ⟨_, rfl⟩
  obtain ⟨rb, hb⟩ : ∃ b, S (nN (n1 * 10 ^ k / n2) (x1 - x2 - 400)) = b := ⟨_, rfl⟩
  obtain ⟨rc, hc⟩ : ∃ c, nX (n1 * 10 ^ k / n2) (x1 - x2 - 400) = c := ⟨_, rfl⟩
  obtain ⟨rd, hd⟩ : ∃ d, nE (n1 * 10 ^ k / n2) (x1 - x2 - 400) = d := ⟨_, rfl⟩
  rw [ha, hb, hc, hd] at HM ⊢
  rw [hd] at h15
  clear ha hb hc hd
  clear h1 h2 hr
  have T := HT.out
  go_enter Tryd.func6, Tryd.ntmps6
  go_wp2_with (first | (go_at_call 15; first | ((with_reducible refine (HV1.out _).mono ?_); rintro e w1 ⟨rfl, hX⟩; have T := T.step hX; clear hX; obtain ⟨a0, a1, a2⟩ := T.a.cells; obtain ⟨b0, b1, b2⟩ := T.b.cells; obtain ⟨c0, c1, c2⟩ := T.c.cells; have y0 := T.c.fz 0; have y1 := T.c.fz 1; have y2 := T.c.fz 2) | ((with_reducible refine (HV2.out _).mono ?_); rintro e w1 ⟨rfl, hX⟩; have T := T.step hX; clear hX; obtain ⟨a0, a1, a2⟩ := T.a.cells; obtain ⟨b0, b1, b2⟩ := T.b.cells; obtain ⟨c0, c1, c2⟩ := T.c.cells; have y0 := T.c.fz 0; have y1 := T.c.fz 1; have y2 := T.c.fz 2)) | (go_at_call 16; (with_reducible refine (HM.out _).mono ?_); rintro e w1 ⟨rfl, hX⟩; have T := T.step hX; clear hX; have C := T.c.alloc (.cells #[.bool ra, .string rb, .int .i64 rc] 23); obtain ⟨c0, c1, c2⟩ := C.cells; have y0 := C.fz 0; have y1 := C.fz 1; have y2 := C.fz 2; have D := DC.new w1 ra rb rc; obtain ⟨d0, d1, d2⟩ := D.cells; have bl := T.bel.alloc T.bel.size (.cells #[.bool ra, .string rb, .int .i64 rc] 23); clear T))
  exact bodyPost_ret (v := .tuple #[.agg #[.bool ra, .string rb, .int .i64 rc], .int .i64 rd]) (by simp [results, Tryd.results6, go_sem, c0, c1, c2]) rfl ⟨rfl, ((bl.setCell (by simp; try omega) _).setCell (by simp; try omega) _).setCell (by simp; try omega) _⟩
end Go.Proofs.YtjidjcnjgjmeoaaDoor.Dec
