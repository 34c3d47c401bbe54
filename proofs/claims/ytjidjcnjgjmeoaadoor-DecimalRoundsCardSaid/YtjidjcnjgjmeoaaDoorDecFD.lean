/-
  Package decimal: Quo of any two decimals, on both sides.
-/
import Derived.Test.YtjidjcnjgjmeoaaDoorDecFC
namespace Go.Proofs.YtjidjcnjgjmeoaaDoor.Dec
open Go.RowKit
set_option linter.unusedVariables false
set_option linter.unusedSimpArgs false
open Go.Proofs.YtjidjcnjgjmeoaaDoor.Dig

theorem short_ok {g : Bool} {n : Nat} {x : Int} (h : okD g n x) : n < 10 ^ 120 := by
  have := (ok_size h).1
  rw [S_size, num_len] at this
  exact this
theorem qu_any (g1 : Bool) (n1 : Nat) (x1 : Int) (g2 : Bool) (n2 : Nat) (x2 p m : Int) (w : World) (h1 : okD g1 n1 x1) (h2 : okD g2 n2 x2) : Calls Tryd.prog 6 #[.agg #[.bool g1, .string (S n1), .int .i64 x1], .agg #[.bool g2, .string (S n2), .int .i64 x2], .int .i64 p, .int .i64 m] w fun e w' => e = retR (quR g1 n1 x1 g2 n2 x2 p m) ∧ Below w.heap.size w w' := by
  unfold quR
  by_cases hb : m < 0 ∨ 4 < m ∨ p < -400 ∨ 400 < p
  · rw [if_pos hb]
    by_cases c0 : m < 0
    · exact qu_bad0 g1 n1 x1 g2 n2 x2 p m w h1 h2 c0
    by_cases c1 : 4 < m
    · exact qu_bad1 g1 n1 x1 g2 n2 x2 p m w h1 h2 (by omega) c1
    by_cases c2 : p < -400
    · exact qu_bad2 g1 n1 x1 g2 n2 x2 p m w h1 h2 (by omega) c2
    · exact qu_bad3 g1 n1 x1 g2 n2 x2 p m w h1 h2 (by omega) (by omega) (by omega)
  rw [if_neg hb]
  have hm : 0 ≤ m ∧ m ≤ 4 := by omega
  have hp : -400 ≤ p ∧ p ≤ 400 := by omega
  clear hb
  rcases Nat.eq_zero_or_pos n2 with hn | p2
  · rw [if_pos hn]
    exact qu_zero g1 n1 x1 g2 n2 x2 p m w h1 h2 hm hp hn
  rw [if_neg (by omega)]
  obtain ⟨hs1, hx1, hx2⟩ := ok_size h1
  obtain ⟨hs2, hx3, hx4⟩ := ok_size h2
  by_cases hB : 480 < x1 - x2 + p
  · obtain ⟨k, hk⟩ : ∃ k : Nat, k = 400 := ⟨_, rfl⟩
    by_cases hr : n1 * 10 ^ k % n2 = 0
    · rw [qo_exact k (x1 - x2 + p - 400).toNat hk (by omega) p2 hr]
      exact qu_faryes g1 n1 x1 g2 n2 x2 p m w h1 h2 hm hp p2 hB k hk hr
    · rw [qo_inexact k (x1 - x2 + p - 480).toNat hk (by omega) p2 (short_ok h2) hr]
      exact qu_farno g1 n1 x1 g2 n2 x2 p m w h1 h2 hm hp p2 hB k hk hr
  by_cases h0 : 0 ≤ x1 - x2 + p
  · obtain ⟨k, hc⟩ := Int.eq_ofNat_of_zero_le h0
    rw [qo_near k hc]
    unfold upN
    cases hu : upB (g1 != g2) (n1 * 10 ^ k / n2) (n1 * 10 ^ k % n2) n2 m with
    | true => rw [if_pos rfl]; exact qu_near1 g1 n1 x1 g2 n2 x2 p m w h1 h2 hm hp p2 k hc (by omega) hu
    | false => rw [if_neg (by simp)]; exact qu_near0 g1 n1 x1 g2 n2 x2 p m w h1 h2 hm hp p2 k hc (by omega) hu
  · obtain ⟨k, hc⟩ := Int.eq_ofNat_of_zero_le (show 0 ≤ -(x1 - x2 + p) by omega)
    have hc' : x1 - x2 + p = -(k : Int) := by omega
    have e : ∃ s, min k 480 = s ∧ qoR g1 n1 x1 g2 n2 x2 p m = nrm (g1 != g2) (upN (g1 != g2) (n1 / (n2 * 10 ^ s)) (n1 % (n2 * 10 ^ s)) (n2 * 10 ^ s) m) (-p) := by
      by_cases hk : k ≤ 480
      · exact ⟨k, by omega, qo_below k hc'⟩
      · obtain ⟨s, hs⟩ : ∃ s : Nat, s = 480 := ⟨_, rfl⟩
        exact ⟨s, by omega, qo_deep s (k - s) hs (by omega) p2 (short_ok h1)⟩
    obtain ⟨s, hs, e⟩ := e
    rw [e]
    unfold upN
    cases hu : upB (g1 != g2) (n1 / (n2 * 10 ^ s)) (n1 % (n2 * 10 ^ s)) (n2 * 10 ^ s) m with
    | true => rw [if_pos rfl]; exact qu_low1 g1 n1 x1 g2 n2 x2 p m w h1 h2 hm hp p2 k s hc' (by omega) hs hu
    | false => rw [if_neg (by simp)]; exact qu_low0 g1 n1 x1 g2 n2 x2 p m w h1 h2 hm hp p2 k s hc' (by omega) hs hu
theorem Num_cat (n k : Nat) : Num (S n ++ noughts k) (n * 10 ^ k) := by
  rcases Nat.eq_zero_or_pos n with h | h
  · subst h
    rw [S_noughts0, Nat.zero_mul]
    exact zeros_num k
  · rw [S_noughts k h]
    exact Num_S _
set_option maxRecDepth 100000 in
set_option maxHeartbeats 8000000 in
theorem rqu_bad0 (g1 : Bool) (n1 : Nat) (x1 : Int) (g2 : Bool) (n2 : Nat) (x2 p m : Int) (w : World) (h1 : okD g1 n1 x1) (h2 : okD g2 n2 x2) (hb : m < 0) : Calls Tryd.prog 8 #[.agg #[.bool g1, .string (S n1), .int .i64 x1], .agg #[.bool g2, .string (S n2), .int .i64 x2], .int .i64 p, .int .i64 m] w fun e w' => e = .returned (.tuple #[.agg #[.bool false, .string ⟨#[]⟩, .int .i64 0], .int .i64 1]) ∧ Below w.heap.size w w' := by
  have T := T3.new w g1 (S n1) x1 g2 (S n2) x2
  obtain ⟨a0, a1, a2⟩ := T.a.cells
  obtain ⟨b0, b1, b2⟩ := T.b.cells
  obtain ⟨c0, c1, c2⟩ := T.c.cells
  have y0 := T.c.fz 0
  have y1 := T.c.fz 1
  have y2 := T.c.fz 2
  clear h1 h2
  go_enter Tryd.func8, Tryd.ntmps8
  go_wp2
  exact bodyPost_ret (v := .tuple #[.agg #[.bool false, .string ⟨#[]⟩, .int .i64 0], .int .i64 1]) (by simp [results, Tryd.results8, go_sem, c0, c1, c2]) rfl ⟨rfl, T.bel⟩
set_option maxRecDepth 100000 in
set_option maxHeartbeats 8000000 in
theorem rqu_bad1 (g1 : Bool) (n1 : Nat) (x1 : Int) (g2 : Bool) (n2 : Nat) (x2 p m : Int) (w : World) (h1 : okD g1 n1 x1) (h2 : okD g2 n2 x2) (hm : 0 ≤ m) (hb : 4 < m) : Calls Tryd.prog 8 #[.agg #[.bool g1, .string (S n1), .int .i64 x1], .agg #[.bool g2, .string (S n2), .int .i64 x2], .int .i64 p, .int .i64 m] w fun e w' => e = .returned (.tuple #[.agg #[.bool false, .string ⟨#[]⟩, .int .i64 0], .int .i64 1]) ∧ Below w.heap.size w w' := by
  have T := T3.new w g1 (S n1) x1 g2 (S n2) x2
  obtain ⟨a0, a1, a2⟩ := T.a.cells
  obtain ⟨b0, b1, b2⟩ := T.b.cells
  obtain ⟨c0, c1, c2⟩ := T.c.cells
  have y0 := T.c.fz 0
  have y1 := T.c.fz 1
  have y2 := T.c.fz 2
  clear h1 h2
  go_enter Tryd.func8, Tryd.ntmps8
  go_wp2
  exact bodyPost_ret (v := .tuple #[.agg #[.bool false, .string ⟨#[]⟩, .int .i64 0], .int .i64 1]) (by simp [results, Tryd.results8, go_sem, c0, c1, c2]) rfl ⟨rfl, T.bel⟩
set_option maxRecDepth 100000 in
set_option maxHeartbeats 8000000 in
theorem rqu_bad2 (g1 : Bool) (n1 : Nat) (x1 : Int) (g2 : Bool) (n2 : Nat) (x2 p m : Int) (w : World) (h1 : okD g1 n1 x1) (h2 : okD g2 n2 x2) (hm : 0 ≤ m ∧ m ≤ 4) (hb : p < -400) : Calls Tryd.prog 8 #[.agg #[.bool g1, .string (S n1), .int .i64 x1], .agg #[.bool g2, .string (S n2), .int .i64 x2], .int .i64 p, .int .i64 m] w fun e w' => e = .returned (.tuple #[.agg #[.bool false, .string ⟨#[]⟩, .int .i64 0], .int .i64 1]) ∧ Below w.heap.size w w' := by
  have T := T3.new w g1 (S n1) x1 g2 (S n2) x2
  obtain ⟨a0, a1, a2⟩ := T.a.cells
  obtain ⟨b0, b1, b2⟩ := T.b.cells
  obtain ⟨c0, c1, c2⟩ := T.c.cells
  have y0 := T.c.fz 0
  have y1 := T.c.fz 1
  have y2 := T.c.fz 2
  clear h1 h2
  go_enter Tryd.func8, Tryd.ntmps8
  go_wp2
  exact bodyPost_ret (v := .tuple #[.agg #[.bool false, .string ⟨#[]⟩, .int .i64 0], .int .i64 1]) (by simp [results, Tryd.results8, go_sem, c0, c1, c2]) rfl ⟨rfl, T.bel⟩
set_option maxRecDepth 100000 in
set_option maxHeartbeats 8000000 in
theorem rqu_bad3 (g1 : Bool) (n1 : Nat) (x1 : Int) (g2 : Bool) (n2 : Nat) (x2 p m : Int) (w : World) (h1 : okD g1 n1 x1) (h2 : okD g2 n2 x2) (hm : 0 ≤ m ∧ m ≤ 4) (hp : -400 ≤ p) (hb : 400 < p) : Calls Tryd.prog 8 #[.agg #[.bool g1, .string (S n1), .int .i64 x1], .agg #[.bool g2, .string (S n2), .int .i64 x2], .int .i64 p, .int .i64 m] w fun e w' => e = .returned (.tuple #[.agg #[.bool false, .string ⟨#[]⟩, .int .i64 0], .int .i64 1]) ∧ Below w.heap.size w w' := by
  have T := T3.new w g1 (S n1) x1 g2 (S n2) x2
  obtain ⟨a0, a1, a2⟩ := T.a.cells
  obtain ⟨b0, b1, b2⟩ := T.b.cells
  obtain ⟨c0, c1, c2⟩ := T.c.cells
  have y0 := T.c.fz 0
  have y1 := T.c.fz 1
  have y2 := T.c.fz 2
  clear h1 h2
  go_enter Tryd.func8, Tryd.ntmps8
  go_wp2
  exact bodyPost_ret (v := .tuple #[.agg #[.bool false, .string ⟨#[]⟩, .int .i64 0], .int .i64 1]) (by simp [results, Tryd.results8, go_sem, c0, c1, c2]) rfl ⟨rfl, T.bel⟩
set_option maxRecDepth 100000 in
set_option maxHeartbeats 8000000 in
theorem rqu_zero (g1 : Bool) (n1 : Nat) (x1 : Int) (g2 : Bool) (n2 : Nat) (x2 p m : Int) (w : World) (h1 : okD g1 n1 x1) (h2 : okD g2 n2 x2) (hm : 0 ≤ m ∧ m ≤ 4) (hp : -400 ≤ p ∧ p ≤ 400) (hn : n2 = 0) : Calls Tryd.prog 8 #[.agg #[.bool g1, .string (S n1), .int .i64 x1], .agg #[.bool g2, .string (S n2), .int .i64 x2], .int .i64 p, .int .i64 m] w fun e w' => e = .returned (.tuple #[.agg #[.bool false, .string ⟨#[]⟩, .int .i64 0], .int .i64 14]) ∧ Below w.heap.size w w' := by
  obtain ⟨hs1, hx1, hx2⟩ := ok_size h1
  obtain ⟨hs2, hx3, hx4⟩ := ok_size h2
  have T := T3.new w g1 (S n1) x1 g2 (S n2) x2
  obtain ⟨a0, a1, a2⟩ := T.a.cells
  obtain ⟨b0, b1, b2⟩ := T.b.cells
  obtain ⟨c0, c1, c2⟩ := T.c.cells
  have y0 := T.c.fz 0
  have y1 := T.c.fz 1
  have y2 := T.c.fz 2
  have e3 : (S n2).toList = [] := tl_nil (by rw [hn]; rfl)
  clear h1 h2 hn
  go_enter Tryd.func8, Tryd.ntmps8
  go_wp2
  exact bodyPost_ret (v := .tuple #[.agg #[.bool false, .string ⟨#[]⟩, .int .i64 0], .int .i64 14]) (by simp [results, Tryd.results8, go_sem, c0, c1, c2]) rfl ⟨rfl, T.bel⟩
set_option maxRecDepth 100000 in
set_option maxHeartbeats 8000000 in
theorem rqu_near1 (g1 : Bool) (n1 : Nat) (x1 : Int) (g2 : Bool) (n2 : Nat) (x2 p m : Int) (w : World) (h1 : okD g1 n1 x1) (h2 : okD g2 n2 x2) (hm : 0 ≤ m ∧ m ≤ 4) (hp : -400 ≤ p ∧ p ≤ 400) (p2 : 0 < n2) (k : Nat) (hc : x1 - x2 + p = (k : Int)) (hu : upB (g1 != g2) (n1 * 10 ^ k / n2) (n1 * 10 ^ k % n2) n2 m = true) : Calls Tryd.prog 8 #[.agg #[.bool g1, .string (S n1), .int .i64 x1], .agg #[.bool g2, .string (S n2), .int .i64 x2], .int .i64 p, .int .i64 m] w fun e w' => e = .returned (.tuple #[.agg #[.bool (nG (g1 != g2) (n1 * 10 ^ k / n2 + 1) (-p)), .string (S (nN (n1 * 10 ^ k / n2 + 1) (-p))), .int .i64 (nX (n1 * 10 ^ k / n2 + 1) (-p))], .int .i64 (nE (n1 * 10 ^ k / n2 + 1) (-p))]) ∧ Below w.heap.size w w' := by
  obtain ⟨hs1, hx1, hx2⟩ := ok_size h1
  obtain ⟨hs2, hx3, hx4⟩ := ok_size h2
  have T := T3.new w g1 (S n1) x1 g2 (S n2) x2
  have HT := Lib.hid T
  have e3 := tl_ne (S_pos p2)
  have e4 := tl_ne' (S_pos p2)
  have s1 : IntKind.i64.wrap (x1 - x2) = x1 - x2 := IntWalk.i64_in _ (by omega)
  have s2 : IntKind.i64.wrap (x1 - x2 + p) = (k : Int) := by rw [← hc]; exact IntWalk.i64_in _ (by omega)
  have hnl : k ≤ 1200 := by omega
  have HO := Lib.hid (fun w => noughts_any k w (by omega))
  have hns := noughts_size k
  have hX : (S (n1 * 10 ^ k)).size ≤ 4000 := Nat.le_trans (S_pow_size hs1) (by omega)
  have hY : (S n2).size ≤ 1320 := by omega
  have p3 := p2
  have hcs : (S n1 ++ noughts k).size ≤ 9223372036854775807 := by rw [ByteArray.size_append]; omega
  have HZ := Lib.hid (fun w => strip_any (S n1 ++ noughts k) (n1 * 10 ^ k) w hcs (Num_cat n1 k))
  have ha1 : ¬ 9223372036854775807 < (S n1).size + (noughts k).size := by omega
  have ha2 : (S n1).size + (noughts k).size ≤ 9223372036854775807 := by omega
  have hq : (S (n1 * 10 ^ k / n2)).size ≤ 4000 := S_less hX (Nat.div_le_self _ _)
  have hrl : n1 * 10 ^ k % n2 < n2 := Nat.mod_lt _ p3
  have HQ := Lib.hid (fun w => rquo_any (n1 * 10 ^ k) n2 w hX (by omega) p3)
  have HR := Lib.hid (fun w => rup_any (n1 * 10 ^ k / n2) (n1 * 10 ^ k % n2) n2 (g1 != g2) w m hm hrl (by omega) hq)
  rw [hu] at HR
  have hr : n1 * 10 ^ k % n2 ≠ 0 := fun h => by rw [h, up_0] at hu; cases hu
  have hq1 : (S (n1 * 10 ^ k / n2 + 1)).size ≤ 4000 := q_fits (by omega) hX p3 hr
  have HA := Lib.hid (fun w => sum_any (n1 * 10 ^ k / n2) 1 w hq (by decide))
  rw [show S 1 = ⟨#[49]⟩ from rfl] at HA
  have hpp : IntKind.i64.wrap (-p) = -p := IntWalk.i64_in _ (by omega)
  have HM := Lib.hid (fun w => norm_any (g1 != g2) (S (n1 * 10 ^ k / n2 + 1)) (n1 * 10 ^ k / n2 + 1) (-p) w (Num_S _) (by omega) (by omega))
  obtain ⟨ra, ha⟩ : ∃ a, nG (g1 != g2) (n1 * 10 ^ k / n2 + 1) (-p) = a := ⟨_, rfl⟩
  obtain ⟨rb, hb⟩ : ∃ b, S (nN (n1 * 10 ^ k / n2 + 1) (-p)) = b := ⟨_, rfl⟩
  obtain ⟨rc, hc⟩ : ∃ c, nX (n1 * 10 ^ k / n2 + 1) (-p) = c := ⟨_, rfl⟩
  obtain ⟨rd, hd⟩ : ∃ d, nE (n1 * 10 ^ k / n2 + 1) (-p) = d := ⟨_, rfl⟩
  rw [ha, hb, hc, hd] at HM ⊢
  clear ha hb hc hd
  clear h1 h2 hrl hu hr hq1 hcs
  generalize S (n1 * 10 ^ k / n2 + 1) = Q1 at *
  generalize S (n1 * 10 ^ k / n2) = Q at *
  generalize S (n1 * 10 ^ k % n2) = R at *
  generalize S (n1 * 10 ^ k) = X at *
  obtain ⟨ng, hng0⟩ : ∃ b, (g1 != g2) = b := ⟨_, rfl⟩
  rw [hng0] at HR HM
  have hng : (!(g1 == g2)) = ng := hng0
  clear hng0
  generalize noughts k = O at *
  have T := HT.out
  go_enter Tryd.func8, Tryd.ntmps8
  go_wp2
  go_quiet (fail)
  have T := T.dn nq
  obtain ⟨a0, a1, a2⟩ := T.a.cells
  obtain ⟨b0, b1, b2⟩ := T.b.cells
  obtain ⟨c0, c1, c2⟩ := T.c.cells
  have y0 := T.c.fz 0
  have y1 := T.c.fz 1
  have y2 := T.c.fz 2
  go_wp2_with (first | (go_at_call 23; (with_reducible refine (HO.out _).mono ?_); rintro e w1 ⟨rfl, hX⟩; have T := T.step hX; clear hX; obtain ⟨a0, a1, a2⟩ := T.a.cells; obtain ⟨b0, b1, b2⟩ := T.b.cells; obtain ⟨c0, c1, c2⟩ := T.c.cells; have y0 := T.c.fz 0; have y1 := T.c.fz 1; have y2 := T.c.fz 2) | (go_at_call 22; (with_reducible refine (HZ.out _).mono ?_); rintro e w1 ⟨rfl, rfl⟩) | (go_at_call 24; (with_reducible refine (HQ.out _).mono ?_); rintro e w1 ⟨rfl, hX⟩; have T := T.step hX; clear hX; obtain ⟨a0, a1, a2⟩ := T.a.cells; obtain ⟨b0, b1, b2⟩ := T.b.cells; obtain ⟨c0, c1, c2⟩ := T.c.cells; have y0 := T.c.fz 0; have y1 := T.c.fz 1; have y2 := T.c.fz 2) | (go_at_call 25; (with_reducible refine (HR.out _).mono ?_); rintro e w1 ⟨rfl, hX⟩; have T := T.step hX; clear hX; obtain ⟨a0, a1, a2⟩ := T.a.cells; obtain ⟨b0, b1, b2⟩ := T.b.cells; obtain ⟨c0, c1, c2⟩ := T.c.cells; have y0 := T.c.fz 0; have y1 := T.c.fz 1; have y2 := T.c.fz 2) | (go_at_call 26; (with_reducible refine (HA.out _).mono ?_); rintro e w1 ⟨rfl, hX⟩; have T := T.step hX; clear hX; obtain ⟨a0, a1, a2⟩ := T.a.cells; obtain ⟨b0, b1, b2⟩ := T.b.cells; obtain ⟨c0, c1, c2⟩ := T.c.cells; have y0 := T.c.fz 0; have y1 := T.c.fz 1; have y2 := T.c.fz 2) | (go_at_call 27; (with_reducible refine (HM.out _).mono ?_); rintro e w1 ⟨rfl, hX⟩; have T := T.step hX; clear hX; obtain ⟨a0, a1, a2⟩ := T.a.cells; obtain ⟨b0, b1, b2⟩ := T.b.cells; obtain ⟨c0, c1, c2⟩ := T.c.cells; have y0 := T.c.fz 0; have y1 := T.c.fz 1; have y2 := T.c.fz 2))
  exact bodyPost_ret (v := .tuple #[.agg #[.bool ra, .string rb, .int .i64 rc], .int .i64 rd]) (by simp [results, Tryd.results8, go_sem, c0, c1, c2]) rfl ⟨rfl, ((T.bel.setCell (by simp; try omega) _).setCell (by simp; try omega) _).setCell (by simp; try omega) _⟩
set_option maxRecDepth 100000 in
set_option maxHeartbeats 8000000 in
theorem rqu_near0 (g1 : Bool) (n1 : Nat) (x1 : Int) (g2 : Bool) (n2 : Nat) (x2 p m : Int) (w : World) (h1 : okD g1 n1 x1) (h2 : okD g2 n2 x2) (hm : 0 ≤ m ∧ m ≤ 4) (hp : -400 ≤ p ∧ p ≤ 400) (p2 : 0 < n2) (k : Nat) (hc : x1 - x2 + p = (k : Int)) (hu : upB (g1 != g2) (n1 * 10 ^ k / n2) (n1 * 10 ^ k % n2) n2 m = false) : Calls Tryd.prog 8 #[.agg #[.bool g1, .string (S n1), .int .i64 x1], .agg #[.bool g2, .string (S n2), .int .i64 x2], .int .i64 p, .int .i64 m] w fun e w' => e = .returned (.tuple #[.agg #[.bool (nG (g1 != g2) (n1 * 10 ^ k / n2) (-p)), .string (S (nN (n1 * 10 ^ k / n2) (-p))), .int .i64 (nX (n1 * 10 ^ k / n2) (-p))], .int .i64 (nE (n1 * 10 ^ k / n2) (-p))]) ∧ Below w.heap.size w w' := by
  obtain ⟨hs1, hx1, hx2⟩ := ok_size h1
  obtain ⟨hs2, hx3, hx4⟩ := ok_size h2
  have T := T3.new w g1 (S n1) x1 g2 (S n2) x2
  have HT := Lib.hid T
  have e3 := tl_ne (S_pos p2)
  have e4 := tl_ne' (S_pos p2)
  have s1 : IntKind.i64.wrap (x1 - x2) = x1 - x2 := IntWalk.i64_in _ (by omega)
  have s2 : IntKind.i64.wrap (x1 - x2 + p) = (k : Int) := by rw [← hc]; exact IntWalk.i64_in _ (by omega)
  have hnl : k ≤ 1200 := by omega
  have HO := Lib.hid (fun w => noughts_any k w (by omega))
  have hns := noughts_size k
  have hX : (S (n1 * 10 ^ k)).size ≤ 4000 := Nat.le_trans (S_pow_size hs1) (by omega)
  have hY : (S n2).size ≤ 1320 := by omega
  have p3 := p2
  have hcs : (S n1 ++ noughts k).size ≤ 9223372036854775807 := by rw [ByteArray.size_append]; omega
  have HZ := Lib.hid (fun w => strip_any (S n1 ++ noughts k) (n1 * 10 ^ k) w hcs (Num_cat n1 k))
  have ha1 : ¬ 9223372036854775807 < (S n1).size + (noughts k).size := by omega
  have ha2 : (S n1).size + (noughts k).size ≤ 9223372036854775807 := by omega
  have hq : (S (n1 * 10 ^ k / n2)).size ≤ 4000 := S_less hX (Nat.div_le_self _ _)
  have hrl : n1 * 10 ^ k % n2 < n2 := Nat.mod_lt _ p3
  have HQ := Lib.hid (fun w => rquo_any (n1 * 10 ^ k) n2 w hX (by omega) p3)
  have HR := Lib.hid (fun w => rup_any (n1 * 10 ^ k / n2) (n1 * 10 ^ k % n2) n2 (g1 != g2) w m hm hrl (by omega) hq)
  rw [hu] at HR
  have hpp : IntKind.i64.wrap (-p) = -p := IntWalk.i64_in _ (by omega)
  have HM := Lib.hid (fun w => norm_any (g1 != g2) (S (n1 * 10 ^ k / n2)) (n1 * 10 ^ k / n2) (-p) w (Num_S _) (by omega) (by omega))
  obtain ⟨ra, ha⟩ : ∃ a, nG (g1 != g2) (n1 * 10 ^ k / n2) (-p) = a := ⟨_, rfl⟩
  obtain ⟨rb, hb⟩ : ∃ b, S (nN (n1 * 10 ^ k / n2) (-p)) = b := ⟨_, rfl⟩
  obtain ⟨rc, hc⟩ : ∃ c, nX (n1 * 10 ^ k / n2) (-p) = c := ⟨_, rfl⟩
  obtain ⟨rd, hd⟩ : ∃ d, nE (n1 * 10 ^ k / n2) (-p) = d := ⟨_, rfl⟩
  rw [ha, hb, hc, hd] at HM ⊢
  clear ha hb hc hd
  clear h1 h2 hrl hu hcs
  generalize S (n1 * 10 ^ k / n2) = Q at *
  generalize S (n1 * 10 ^ k % n2) = R at *
  generalize S (n1 * 10 ^ k) = X at *
  obtain ⟨ng, hng0⟩ : ∃ b, (g1 != g2) = b := ⟨_, rfl⟩
  rw [hng0] at HR HM
  have hng : (!(g1 == g2)) = ng := hng0
  clear hng0
  generalize noughts k = O at *
  have T := HT.out
  go_enter Tryd.func8, Tryd.ntmps8
  go_wp2
  go_quiet (fail)
  have T := T.dn nq
  obtain ⟨a0, a1, a2⟩ := T.a.cells
  obtain ⟨b0, b1, b2⟩ := T.b.cells
  obtain ⟨c0, c1, c2⟩ := T.c.cells
  have y0 := T.c.fz 0
  have y1 := T.c.fz 1
  have y2 := T.c.fz 2
  go_wp2_with (first | (go_at_call 23; (with_reducible refine (HO.out _).mono ?_); rintro e w1 ⟨rfl, hX⟩; have T := T.step hX; clear hX; obtain ⟨a0, a1, a2⟩ := T.a.cells; obtain ⟨b0, b1, b2⟩ := T.b.cells; obtain ⟨c0, c1, c2⟩ := T.c.cells; have y0 := T.c.fz 0; have y1 := T.c.fz 1; have y2 := T.c.fz 2) | (go_at_call 22; (with_reducible refine (HZ.out _).mono ?_); rintro e w1 ⟨rfl, rfl⟩) | (go_at_call 24; (with_reducible refine (HQ.out _).mono ?_); rintro e w1 ⟨rfl, hX⟩; have T := T.step hX; clear hX; obtain ⟨a0, a1, a2⟩ := T.a.cells; obtain ⟨b0, b1, b2⟩ := T.b.cells; obtain ⟨c0, c1, c2⟩ := T.c.cells; have y0 := T.c.fz 0; have y1 := T.c.fz 1; have y2 := T.c.fz 2) | (go_at_call 25; (with_reducible refine (HR.out _).mono ?_); rintro e w1 ⟨rfl, hX⟩; have T := T.step hX; clear hX; obtain ⟨a0, a1, a2⟩ := T.a.cells; obtain ⟨b0, b1, b2⟩ := T.b.cells; obtain ⟨c0, c1, c2⟩ := T.c.cells; have y0 := T.c.fz 0; have y1 := T.c.fz 1; have y2 := T.c.fz 2) | fail | (go_at_call 27; (with_reducible refine (HM.out _).mono ?_); rintro e w1 ⟨rfl, hX⟩; have T := T.step hX; clear hX; obtain ⟨a0, a1, a2⟩ := T.a.cells; obtain ⟨b0, b1, b2⟩ := T.b.cells; obtain ⟨c0, c1, c2⟩ := T.c.cells; have y0 := T.c.fz 0; have y1 := T.c.fz 1; have y2 := T.c.fz 2))
  exact bodyPost_ret (v := .tuple #[.agg #[.bool ra, .string rb, .int .i64 rc], .int .i64 rd]) (by simp [results, Tryd.results8, go_sem, c0, c1, c2]) rfl ⟨rfl, ((T.bel.setCell (by simp; try omega) _).setCell (by simp; try omega) _).setCell (by simp; try omega) _⟩
set_option maxRecDepth 100000 in
set_option maxHeartbeats 8000000 in
theorem rqu_low1 (g1 : Bool) (n1 : Nat) (x1 : Int) (g2 : Bool) (n2 : Nat) (x2 p m : Int) (w : World) (h1 : okD g1 n1 x1) (h2 : okD g2 n2 x2) (hm : 0 ≤ m ∧ m ≤ 4) (hp : -400 ≤ p ∧ p ≤ 400) (p2 : 0 < n2) (k : Nat) (hc : x1 - x2 + p = -(k : Int)) (hk : 0 < k) (hu : upB (g1 != g2) (n1 / (n2 * 10 ^ k)) (n1 % (n2 * 10 ^ k)) (n2 * 10 ^ k) m = true) : Calls Tryd.prog 8 #[.agg #[.bool g1, .string (S n1), .int .i64 x1], .agg #[.bool g2, .string (S n2), .int .i64 x2], .int .i64 p, .int .i64 m] w fun e w' => e = .returned (.tuple #[.agg #[.bool (nG (g1 != g2) (n1 / (n2 * 10 ^ k) + 1) (-p)), .string (S (nN (n1 / (n2 * 10 ^ k) + 1) (-p))), .int .i64 (nX (n1 / (n2 * 10 ^ k) + 1) (-p))], .int .i64 (nE (n1 / (n2 * 10 ^ k) + 1) (-p))]) ∧ Below w.heap.size w w' := by
  obtain ⟨hs1, hx1, hx2⟩ := ok_size h1
  obtain ⟨hs2, hx3, hx4⟩ := ok_size h2
  have T := T3.new w g1 (S n1) x1 g2 (S n2) x2
  have HT := Lib.hid T
  have e3 := tl_ne (S_pos p2)
  have e4 := tl_ne' (S_pos p2)
  have s1 : IntKind.i64.wrap (x1 - x2) = x1 - x2 := IntWalk.i64_in _ (by omega)
  have s2 : IntKind.i64.wrap (x1 - x2 + p) = -(k : Int) := by rw [← hc]; exact IntWalk.i64_in _ (by omega)
  have hnl : k ≤ 1200 := by omega
  have HO := Lib.hid (fun w => noughts_any k w (by omega))
  have hns := noughts_size k
  have s3 : IntKind.i64.wrap (- -(k : Int)) = (k : Int) := by rw [Int.neg_neg]; exact IntWalk.i64_in _ (by omega)
  have s4 : IntKind.i64.wrap (k : Int) = (k : Int) := IntWalk.i64_in _ (by omega)
  have hX : (S n1).size ≤ 4000 := by omega
  have hY : (S (n2 * 10 ^ k)).size ≤ 1320 := Nat.le_trans (S_pow_size hs2) (by omega)
  have p3 : 0 < (n2 * 10 ^ k) := Nat.mul_pos p2 (pow_pos' k)
  have hcat : S n2 ++ noughts k = S (n2 * 10 ^ k) := S_noughts k p2
  have ha1 : ¬ 9223372036854775807 < (S n2).size + (noughts k).size := by omega
  have ha2 : (S n2).size + (noughts k).size ≤ 9223372036854775807 := by omega
  have hq : (S (n1 / (n2 * 10 ^ k))).size ≤ 4000 := S_less hX (Nat.div_le_self _ _)
  have hrl : n1 % (n2 * 10 ^ k) < (n2 * 10 ^ k) := Nat.mod_lt _ p3
  have HQ := Lib.hid (fun w => rquo_any (n1) (n2 * 10 ^ k) w hX (by omega) p3)
  have HR := Lib.hid (fun w => rup_any (n1 / (n2 * 10 ^ k)) (n1 % (n2 * 10 ^ k)) (n2 * 10 ^ k) (g1 != g2) w m hm hrl (by omega) hq)
  rw [hu] at HR
  have hr : n1 % (n2 * 10 ^ k) ≠ 0 := fun h => by rw [h, up_0] at hu; cases hu
  have hq1 : (S (n1 / (n2 * 10 ^ k) + 1)).size ≤ 4000 := q_fits (by omega) hX p3 hr
  have HA := Lib.hid (fun w => sum_any (n1 / (n2 * 10 ^ k)) 1 w hq (by decide))
  rw [show S 1 = ⟨#[49]⟩ from rfl] at HA
  have hpp : IntKind.i64.wrap (-p) = -p := IntWalk.i64_in _ (by omega)
  have HM := Lib.hid (fun w => norm_any (g1 != g2) (S (n1 / (n2 * 10 ^ k) + 1)) (n1 / (n2 * 10 ^ k) + 1) (-p) w (Num_S _) (by omega) (by omega))
  obtain ⟨ra, ha⟩ : ∃ a, nG (g1 != g2) (n1 / (n2 * 10 ^ k) + 1) (-p) = a := ⟨_, rfl⟩
  obtain ⟨rb, hb⟩ : ∃ b, S (nN (n1 / (n2 * 10 ^ k) + 1) (-p)) = b := ⟨_, rfl⟩
  obtain ⟨rc, hc⟩ : ∃ c, nX (n1 / (n2 * 10 ^ k) + 1) (-p) = c := ⟨_, rfl⟩
  obtain ⟨rd, hd⟩ : ∃ d, nE (n1 / (n2 * 10 ^ k) + 1) (-p) = d := ⟨_, rfl⟩
  rw [ha, hb, hc, hd] at HM ⊢
  clear ha hb hc hd
  clear h1 h2 hrl hu hr hq1 hY p3
  generalize S (n1 / (n2 * 10 ^ k) + 1) = Q1 at *
  generalize S (n1 / (n2 * 10 ^ k)) = Q at *
  generalize S (n1 % (n2 * 10 ^ k)) = R at *
  generalize S (n2 * 10 ^ k) = X at *
  obtain ⟨ng, hng0⟩ : ∃ b, (g1 != g2) = b := ⟨_, rfl⟩
  rw [hng0] at HR HM
  have hng : (!(g1 == g2)) = ng := hng0
  clear hng0
  generalize noughts k = O at *
  have T := HT.out
  go_enter Tryd.func8, Tryd.ntmps8
  go_wp2
  go_quiet (fail)
  have T := T.dn nq
  obtain ⟨a0, a1, a2⟩ := T.a.cells
  obtain ⟨b0, b1, b2⟩ := T.b.cells
  obtain ⟨c0, c1, c2⟩ := T.c.cells
  have y0 := T.c.fz 0
  have y1 := T.c.fz 1
  have y2 := T.c.fz 2
  go_wp2_with (first | (go_at_call 23; (with_reducible refine (HO.out _).mono ?_); rintro e w1 ⟨rfl, hX⟩; have T := T.step hX; clear hX; obtain ⟨a0, a1, a2⟩ := T.a.cells; obtain ⟨b0, b1, b2⟩ := T.b.cells; obtain ⟨c0, c1, c2⟩ := T.c.cells; have y0 := T.c.fz 0; have y1 := T.c.fz 1; have y2 := T.c.fz 2) | fail | (go_at_call 24; (with_reducible refine (HQ.out _).mono ?_); rintro e w1 ⟨rfl, hX⟩; have T := T.step hX; clear hX; obtain ⟨a0, a1, a2⟩ := T.a.cells; obtain ⟨b0, b1, b2⟩ := T.b.cells; obtain ⟨c0, c1, c2⟩ := T.c.cells; have y0 := T.c.fz 0; have y1 := T.c.fz 1; have y2 := T.c.fz 2) | (go_at_call 25; (with_reducible refine (HR.out _).mono ?_); rintro e w1 ⟨rfl, hX⟩; have T := T.step hX; clear hX; obtain ⟨a0, a1, a2⟩ := T.a.cells; obtain ⟨b0, b1, b2⟩ := T.b.cells; obtain ⟨c0, c1, c2⟩ := T.c.cells; have y0 := T.c.fz 0; have y1 := T.c.fz 1; have y2 := T.c.fz 2) | (go_at_call 26; (with_reducible refine (HA.out _).mono ?_); rintro e w1 ⟨rfl, hX⟩; have T := T.step hX; clear hX; obtain ⟨a0, a1, a2⟩ := T.a.cells; obtain ⟨b0, b1, b2⟩ := T.b.cells; obtain ⟨c0, c1, c2⟩ := T.c.cells; have y0 := T.c.fz 0; have y1 := T.c.fz 1; have y2 := T.c.fz 2) | (go_at_call 27; (with_reducible refine (HM.out _).mono ?_); rintro e w1 ⟨rfl, hX⟩; have T := T.step hX; clear hX; obtain ⟨a0, a1, a2⟩ := T.a.cells; obtain ⟨b0, b1, b2⟩ := T.b.cells; obtain ⟨c0, c1, c2⟩ := T.c.cells; have y0 := T.c.fz 0; have y1 := T.c.fz 1; have y2 := T.c.fz 2))
  exact bodyPost_ret (v := .tuple #[.agg #[.bool ra, .string rb, .int .i64 rc], .int .i64 rd]) (by simp [results, Tryd.results8, go_sem, c0, c1, c2]) rfl ⟨rfl, ((T.bel.setCell (by simp; try omega) _).setCell (by simp; try omega) _).setCell (by simp; try omega) _⟩
set_option maxRecDepth 100000 in
set_option maxHeartbeats 8000000 in
theorem rqu_low0 (g1 : Bool) (n1 : Nat) (x1 : Int) (g2 : Bool) (n2 : Nat) (x2 p m : Int) (w : World) (h1 : okD g1 n1 x1) (h2 : okD g2 n2 x2) (hm : 0 ≤ m ∧ m ≤ 4) (hp : -400 ≤ p ∧ p ≤ 400) (p2 : 0 < n2) (k : Nat) (hc : x1 - x2 + p = -(k : Int)) (hk : 0 < k) (hu : upB (g1 != g2) (n1 / (n2 * 10 ^ k)) (n1 % (n2 * 10 ^ k)) (n2 * 10 ^ k) m = false) : Calls Tryd.prog 8 #[.agg #[.bool g1, .string (S n1), .int .i64 x1], .agg #[.bool g2, .string (S n2), .int .i64 x2], .int .i64 p, .int .i64 m] w fun e w' => e = .returned (.tuple #[.agg #[.bool (nG (g1 != g2) (n1 / (n2 * 10 ^ k)) (-p)), .string (S (nN (n1 / (n2 * 10 ^ k)) (-p))), .int .i64 (nX (n1 / (n2 * 10 ^ k)) (-p))], .int .i64 (nE (n1 / (n2 * 10 ^ k)) (-p))]) ∧ Below w.heap.size w w' := by
  obtain ⟨hs1, hx1, hx2⟩ := ok_size h1
  obtain ⟨hs2, hx3, hx4⟩ := ok_size h2
  have T := T3.new w g1 (S n1) x1 g2 (S n2) x2
  have HT := Lib.hid T
  have e3 := tl_ne (S_pos p2)
  have e4 := tl_ne' (S_pos p2)
  have s1 : IntKind.i64.wrap (x1 - x2) = x1 - x2 := IntWalk.i64_in _ (by omega)
  have s2 : IntKind.i64.wrap (x1 - x2 + p) = -(k : Int) := by rw [← hc]; exact IntWalk.i64_in _ (by omega)
  have hnl : k ≤ 1200 := by omega
  have HO := Lib.hid (fun w => noughts_any k w (by omega))
  have hns := noughts_size k
  have s3 : IntKind.i64.wrap (- -(k : Int)) = (k : Int) := by rw [Int.neg_neg]; exact IntWalk.i64_in _ (by omega)
  have s4 : IntKind.i64.wrap (k : Int) = (k : Int) := IntWalk.i64_in _ (by omega)
  have hX : (S n1).size ≤ 4000 := by omega
  have hY : (S (n2 * 10 ^ k)).size ≤ 1320 := Nat.le_trans (S_pow_size hs2) (by omega)
  have p3 : 0 < (n2 * 10 ^ k) := Nat.mul_pos p2 (pow_pos' k)
  have hcat : S n2 ++ noughts k = S (n2 * 10 ^ k) := S_noughts k p2
  have ha1 : ¬ 9223372036854775807 < (S n2).size + (noughts k).size := by omega
  have ha2 : (S n2).size + (noughts k).size ≤ 9223372036854775807 := by omega
  have hq : (S (n1 / (n2 * 10 ^ k))).size ≤ 4000 := S_less hX (Nat.div_le_self _ _)
  have hrl : n1 % (n2 * 10 ^ k) < (n2 * 10 ^ k) := Nat.mod_lt _ p3
  have HQ := Lib.hid (fun w => rquo_any (n1) (n2 * 10 ^ k) w hX (by omega) p3)
  have HR := Lib.hid (fun w => rup_any (n1 / (n2 * 10 ^ k)) (n1 % (n2 * 10 ^ k)) (n2 * 10 ^ k) (g1 != g2) w m hm hrl (by omega) hq)
  rw [hu] at HR
  have hpp : IntKind.i64.wrap (-p) = -p := IntWalk.i64_in _ (by omega)
  have HM := Lib.hid (fun w => norm_any (g1 != g2) (S (n1 / (n2 * 10 ^ k))) (n1 / (n2 * 10 ^ k)) (-p) w (Num_S _) (by omega) (by omega))
  obtain ⟨ra, ha⟩ : ∃ a, nG (g1 != g2) (n1 / (n2 * 10 ^ k)) (-p) = a := ⟨_, rfl⟩
  obtain ⟨rb, hb⟩ : ∃ b, S (nN (n1 / (n2 * 10 ^ k)) (-p)) = b := ⟨_, rfl⟩
  obtain ⟨rc, hc⟩ : ∃ c, nX (n1 / (n2 * 10 ^ k)) (-p) = c := ⟨_, rfl⟩
  obtain ⟨rd, hd⟩ : ∃ d, nE (n1 / (n2 * 10 ^ k)) (-p) = d := ⟨_, rfl⟩
  rw [ha, hb, hc, hd] at HM ⊢
  clear ha hb hc hd
  clear h1 h2 hrl hu hY p3
  generalize S (n1 / (n2 * 10 ^ k)) = Q at *
  generalize S (n1 % (n2 * 10 ^ k)) = R at *
  generalize S (n2 * 10 ^ k) = X at *
  obtain ⟨ng, hng0⟩ : ∃ b, (g1 != g2) = b := ⟨_, rfl⟩
  rw [hng0] at HR HM
  have hng : (!(g1 == g2)) = ng := hng0
  clear hng0
  generalize noughts k = O at *
  have T := HT.out
  go_enter Tryd.func8, Tryd.ntmps8
  go_wp2
  go_quiet (fail)
  have T := T.dn nq
  obtain ⟨a0, a1, a2⟩ := T.a.cells
  obtain ⟨b0, b1, b2⟩ := T.b.cells
  obtain ⟨c0, c1, c2⟩ := T.c.cells
  have y0 := T.c.fz 0
  have y1 := T.c.fz 1
  have y2 := T.c.fz 2
  go_wp2_with (first | (go_at_call 23; (with_reducible refine (HO.out _).mono ?_); rintro e w1 ⟨rfl, hX⟩; have T := T.step hX; clear hX; obtain ⟨a0, a1, a2⟩ := T.a.cells; obtain ⟨b0, b1, b2⟩ := T.b.cells; obtain ⟨c0, c1, c2⟩ := T.c.cells; have y0 := T.c.fz 0; have y1 := T.c.fz 1; have y2 := T.c.fz 2) | fail | (go_at_call 24; (with_reducible refine (HQ.out _).mono ?_); rintro e w1 ⟨rfl, hX⟩; have T := T.step hX; clear hX; obtain ⟨a0, a1, a2⟩ := T.a.cells; obtain ⟨b0, b1, b2⟩ := T.b.cells; obtain ⟨c0, c1, c2⟩ := T.c.cells; have y0 := T.c.fz 0; have y1 := T.c.fz 1; have y2 := T.c.fz 2) | (go_at_call 25; (with_reducible refine (HR.out _).mono ?_); rintro e w1 ⟨rfl, hX⟩; have T := T.step hX; clear hX; obtain ⟨a0, a1, a2⟩ := T.a.cells; obtain ⟨b0, b1, b2⟩ := T.b.cells; obtain ⟨c0, c1, c2⟩ := T.c.cells; have y0 := T.c.fz 0; have y1 := T.c.fz 1; have y2 := T.c.fz 2) | fail | (go_at_call 27; (with_reducible refine (HM.out _).mono ?_); rintro e w1 ⟨rfl, hX⟩; have T := T.step hX; clear hX; obtain ⟨a0, a1, a2⟩ := T.a.cells; obtain ⟨b0, b1, b2⟩ := T.b.cells; obtain ⟨c0, c1, c2⟩ := T.c.cells; have y0 := T.c.fz 0; have y1 := T.c.fz 1; have y2 := T.c.fz 2))
  exact bodyPost_ret (v := .tuple #[.agg #[.bool ra, .string rb, .int .i64 rc], .int .i64 rd]) (by simp [results, Tryd.results8, go_sem, c0, c1, c2]) rfl ⟨rfl, ((T.bel.setCell (by simp; try omega) _).setCell (by simp; try omega) _).setCell (by simp; try omega) _⟩
theorem rqu_any (g1 : Bool) (n1 : Nat) (x1 : Int) (g2 : Bool) (n2 : Nat) (x2 p m : Int) (w : World) (h1 : okD g1 n1 x1) (h2 : okD g2 n2 x2) : Calls Tryd.prog 8 #[.agg #[.bool g1, .string (S n1), .int .i64 x1], .agg #[.bool g2, .string (S n2), .int .i64 x2], .int .i64 p, .int .i64 m] w fun e w' => e = retR (quR g1 n1 x1 g2 n2 x2 p m) ∧ Below w.heap.size w w' := by
  unfold quR
  by_cases hb : m < 0 ∨ 4 < m ∨ p < -400 ∨ 400 < p
  · rw [if_pos hb]
    by_cases c0 : m < 0
    · exact rqu_bad0 g1 n1 x1 g2 n2 x2 p m w h1 h2 c0
    by_cases c1 : 4 < m
    · exact rqu_bad1 g1 n1 x1 g2 n2 x2 p m w h1 h2 (by omega) c1
    by_cases c2 : p < -400
    · exact rqu_bad2 g1 n1 x1 g2 n2 x2 p m w h1 h2 (by omega) c2
    · exact rqu_bad3 g1 n1 x1 g2 n2 x2 p m w h1 h2 (by omega) (by omega) (by omega)
  rw [if_neg hb]
  have hm : 0 ≤ m ∧ m ≤ 4 := by omega
  have hp : -400 ≤ p ∧ p ≤ 400 := by omega
  clear hb
  rcases Nat.eq_zero_or_pos n2 with hn | p2
  · rw [if_pos hn]
    exact rqu_zero g1 n1 x1 g2 n2 x2 p m w h1 h2 hm hp hn
  rw [if_neg (by omega)]
  by_cases h0 : 0 ≤ x1 - x2 + p
  · obtain ⟨k, hc⟩ := Int.eq_ofNat_of_zero_le h0
    rw [qo_near k hc]
    unfold upN
    cases hu : upB (g1 != g2) (n1 * 10 ^ k / n2) (n1 * 10 ^ k % n2) n2 m with
    | true => rw [if_pos rfl]; exact rqu_near1 g1 n1 x1 g2 n2 x2 p m w h1 h2 hm hp p2 k hc hu
    | false => rw [if_neg (by simp)]; exact rqu_near0 g1 n1 x1 g2 n2 x2 p m w h1 h2 hm hp p2 k hc hu
  · obtain ⟨k, hc⟩ := Int.eq_ofNat_of_zero_le (show 0 ≤ -(x1 - x2 + p) by omega)
    have hc' : x1 - x2 + p = -(k : Int) := by omega
    rw [qo_below k hc']
    unfold upN
    cases hu : upB (g1 != g2) (n1 / (n2 * 10 ^ k)) (n1 % (n2 * 10 ^ k)) (n2 * 10 ^ k) m with
    | true => rw [if_pos rfl]; exact rqu_low1 g1 n1 x1 g2 n2 x2 p m w h1 h2 hm hp p2 k hc' (by omega) hu
    | false => rw [if_neg (by simp)]; exact rqu_low0 g1 n1 x1 g2 n2 x2 p m w h1 h2 hm hp p2 k hc' (by omega) hu
end Go.Proofs.YtjidjcnjgjmeoaaDoor.Dec
