/-
  Contracts of the reference of decimal: differences, the order.
-/
import Derived.Test.YtaldffdakfiecaaGreatDoorDecX
import Derived.Deep.QuietTactic
import Derived.BigQuiet
namespace Go.Proofs.YtaldffdakfiecaaGreatDoor.Dec
open Go.RowKit
set_option linter.unusedVariables false
set_option linter.unusedSimpArgs false
open Go.Proofs.YtaldffdakfiecaaGreatDoor.Dig

set_option maxRecDepth 100000 in
set_option maxHeartbeats 8000000 in
theorem rneg_zero (g : Bool) (n : Nat) (x : Int) (w : World) (hn : n = 0) : Calls Tryz.prog 29 #[.agg #[.bool g, .string (S n), .int .i64 x]] w fun e w' => e = .returned (.agg #[.bool g, .string (S n), .int .i64 x]) ∧ Below w.heap.size w w' := by
  have ey : (S n).toList = [] := tl_nil (by rw [hn]; rfl)
  clear hn
  go_enter Tryz.func29, Tryz.ntmps29
  go_wp2
  exact bodyPost_ret (v := .agg #[.bool g, .string (S n), .int .i64 x]) (by simp [results, Tryz.results29, go_sem]) rfl ⟨rfl, ((Below.refl _ _).alloc (Nat.le_refl _) _).alloc (by simp) _⟩
set_option maxRecDepth 100000 in
set_option maxHeartbeats 8000000 in
theorem rneg_pos (g : Bool) (n : Nat) (x : Int) (w : World) (hn : 0 < n) : Calls Tryz.prog 29 #[.agg #[.bool g, .string (S n), .int .i64 x]] w fun e w' => e = .returned (.agg #[.bool (!g), .string (S n), .int .i64 x]) ∧ Below w.heap.size w w' := by
  have ey := tl_ne (S_pos hn)
  have ey' := tl_ne' (S_pos hn)
  clear hn
  go_enter Tryz.func29, Tryz.ntmps29
  go_wp2
  exact bodyPost_ret (v := .agg #[.bool (!g), .string (S n), .int .i64 x]) (by simp [results, Tryz.results29, go_sem]) rfl ⟨rfl, ((Below.refl _ _).alloc (Nat.le_refl _) _).alloc (by simp) _⟩
theorem rneg_any {g : Bool} {n : Nat} {x : Int} (w : World) (h : okD g n x) : Calls Tryz.prog 29 #[.agg #[.bool g, .string (S n), .int .i64 x]] w fun e w' => e = .returned (.agg #[.bool (ngG g n), .string (S n), .int .i64 x]) ∧ Below w.heap.size w w' := by
  rcases h with ⟨rfl, rfl, rfl⟩ | ⟨h, r⟩
  · exact rneg_zero false 0 0 w rfl
  · rw [show ngG g n = !g from if_neg (by omega)]
    exact rneg_pos g n x w h
set_option maxRecDepth 100000 in
set_option maxHeartbeats 8000000 in
theorem rdsub_any (g1 : Bool) (n1 : Nat) (x1 : Int) (g2 : Bool) (n2 : Nat) (x2 : Int) (w : World) (h1 : okD g1 n1 x1) (h2 : okD g2 n2 x2) : Calls Tryz.prog 9 #[.agg #[.bool g1, .string (S n1), .int .i64 x1], .agg #[.bool g2, .string (S n2), .int .i64 x2]] w fun e w' => e = retR (subR g1 n1 x1 g2 n2 x2) ∧ Below w.heap.size w w' := by
  have HT := Lib.hid (T3.new w g1 (S n1) x1 g2 (S n2) x2)
  have HN := Lib.hid (fun w => rneg_any w h2)
  have HA := Lib.hid (fun w => rdadd_any g1 n1 x1 (ngG g2 n2) n2 x2 w h1 (ok_neg h2).1)
  unfold subR retR
  unfold retR at HA
  obtain ⟨ra, rn, rc, rd, hR⟩ : ∃ a b c d, addR g1 n1 x1 (ngG g2 n2) n2 x2 = (a, b, c, d) := ⟨_, _, _, _, rfl⟩
  rw [hR] at HA ⊢
  simp only at HA ⊢
  obtain ⟨rb, hrb⟩ : ∃ b, S rn = b := ⟨_, rfl⟩
  rw [hrb] at HA ⊢
  generalize ngG g2 n2 = gn at *
  clear h1 h2 hR hrb
  go_enter Tryz.func9, Tryz.ntmps9
  go_wp2
  have T := HT.out.four
  go_region_held3 (fun (W : World) => T4 w W g1  (S n1) x1 g2 (S n2) x2 ∧ W.cell? ⟨w.heap.size, 0, none⟩ = some (.bool g1) ∧ W.cell? ⟨w.heap.size, 1, none⟩ = some (.string (S n1)) ∧ W.cell? ⟨w.heap.size, 2, none⟩ = some (.int .i64 x1) ∧ W.cell? ⟨w.heap.size + 1, 0, none⟩ = some (.bool g2) ∧ W.cell? ⟨w.heap.size + 1, 1, none⟩ = some (.string (S n2)) ∧ W.cell? ⟨w.heap.size + 1, 2, none⟩ = some (.int .i64 x2)) ((first | (go_split_ands; exact T4.all (by assumption)) | (go_split_ands; exact T4.all (T4.d (by assumption))) | (go_split_ands; exact T4.all (T4.step hX (by assumption))) | (go_split_ands; exact T4.all (T4.put (by assumption) _ _ _)))) (first | (go_at_call 29; (with_reducible refine (HN.out _).mono ?_); rintro e wn ⟨rfl, hX⟩) | (go_at_call 8; (with_reducible refine (HA.out _).mono ?_); rintro e wn ⟨rfl, hX⟩) | (go_split_ands; obtain ⟨g0, s0, z0, hD⟩ := T4.c (by assumption); obtain ⟨c0, c1, c2⟩ := hD.cells; have y0 := hD.fz 0; have y1 := hD.fz 1; have y2 := hD.fz 2; go_simp))
  rename_i hH
  have bl := hH.1.bel
  clear hH T
  go_wp2
  exact bodyPost_ret (v := .tuple #[.agg #[.bool ra, .string rb, .int .i64 rc], .int .i64 rd]) (by simp [results, Tryz.results9, go_sem, c0, c1, c2]) rfl ⟨rfl, bl⟩
theorem rcmpB (x y : Nat) (w : World) (hx : (S x).size ≤ 9223372036854775807) (hy : (S y).size ≤ 9223372036854775807) : Calls Tryz.prog 27 #[.string (S x), .string (S y)] w fun e w' => e = .returned (.int .i64 (cmpN x y)) ∧ Below w.heap.size w w' :=
  (rcmp_any x y w hx hy).mono fun e w' h => ⟨h.1, by rw [← h.2]; exact Below.refl _ _⟩
theorem cmpN_scale (a b : Nat) {P : Nat} (hP : 0 < P) : cmpN a b = icmp ((a * P : Nat) : Int) ((b * P : Nat) : Int) := by
  unfold cmpN icmp
  rcases (show a < b ∨ b < a ∨ a = b by omega) with h | h | h
  · have := Nat.mul_lt_mul_of_pos_right h hP
    rw [if_pos h, if_pos (by omega)]
  · have := Nat.mul_lt_mul_of_pos_right h hP
    rw [if_neg (by omega), if_neg (by omega), if_neg (by omega), if_pos (by omega)]
  · subst h
    rw [if_neg (by omega), if_pos rfl, if_neg (by omega), if_neg (by omega)]
theorem cmpN_abs {n1 n2 k1 k2 : Nat} {x1 x2 : Int} (c : Nat) (h1 : x1 + 400 = ((k1 + c : Nat) : Int)) (h2 : x2 + 400 = ((k2 + c : Nat) : Int)) : cmpN (n1 * 10 ^ k1) (n2 * 10 ^ k2) = icmp (absV n1 x1) (absV n2 x2) := by
  rw [cmpN_scale _ _ (pow_pos' c)]
  unfold absV
  rw [h1, h2, Int.toNat_natCast, Int.toNat_natCast, Nat.pow_add, Nat.pow_add, Nat.mul_assoc, Nat.mul_assoc]
theorem cmpN_zero {n1 n2 : Nat} (x1 x2 : Int) (h : n1 = 0 ∨ n2 = 0) : cmpN n1 n2 = icmp (absV n1 x1) (absV n2 x2) := by
  rcases Nat.eq_zero_or_pos n1 with e1 | p1
  · subst e1
    rw [absV_zero]
    rcases Nat.eq_zero_or_pos n2 with e2 | p2
    · subst e2; rw [absV_zero]; rfl
    · have := absV_pos x2 p2
      unfold cmpN icmp
      rw [if_pos p2, if_pos (by omega)]
  · obtain rfl : n2 = 0 := by omega
    have := absV_pos x1 p1
    rw [absV_zero]
    unfold cmpN icmp
    rw [if_neg (by omega), if_neg (by omega), if_neg (by omega), if_pos (by omega)]
theorem cabs_far {n1 n2 : Nat} {x1 x2 : Int} (p1 : 0 < n1) (p2 : 0 < n2) (z1 : zr n1 = 0) (z2 : zr n2 = 0) (h1 : -400 ≤ x1) (h2 : -400 ≤ x2) (h : ((S n1).size : Int) + x1 ≠ (S n2).size + x2) : icmp (absV n1 x1) (absV n2 x2) = icmp ((S n1).size + x1) ((S n2).size + x2) := by
  have := cabs_pow (x1 := x1) (x2 := x2) p1 p2 z1 z2 (e1 := (x1 + 400).toNat) (e2 := (x2 + 400).toNat) (by omega) (by omega)
  unfold absV
  rw [← this]
  unfold cabs
  have hne : icmp (((S n1).size : Int) + x1) ((S n2).size + x2) ≠ 0 := by
    unfold icmp
    split
    · decide
    · split
      · decide
      · omega
  rw [if_pos hne]
theorem P2.new (w : World) (g1 : Bool) (s1 : ByteArray) (x1 : Int) (g2 : Bool) (s2 : ByteArray) (x2 : Int) : P2 w ((w.alloc (.cells #[.bool g1, .string s1, .int .i64 x1] 23)).alloc (.cells #[.bool g2, .string s2, .int .i64 x2] 23)) g1 s1 x1 g2 s2 x2 := by
  obtain ⟨a, b, c⟩ := two_new w g1 s1 x1 g2 s2 x2
  exact ⟨a, b, c⟩
theorem P2.dn {w W : World} {g1 g2 : Bool} {s1 s2 : ByteArray} {x1 x2 : Int} (h : P2 w W g1 s1 x1 g2 s2 x2) (n : Nat) : P2 w (W.drewN n) g1 s1 x1 g2 s2 x2 := ⟨h.a, h.b, h.bel.trans ⟨rfl, rfl, rfl, Nat.le_refl _, fun _ _ => rfl⟩⟩
set_option maxRecDepth 100000 in
set_option maxHeartbeats 8000000 in
theorem rsize_zero (g1 : Bool) (n1 : Nat) (x1 : Int) (g2 : Bool) (n2 : Nat) (x2 : Int) (w : World) (hs1 : (S n1).size ≤ 120) (hs2 : (S n2).size ≤ 120) (hn : n1 = 0 ∨ n2 = 0) : Calls Tryz.prog 33 #[.agg #[.bool g1, .string (S n1), .int .i64 x1], .agg #[.bool g2, .string (S n2), .int .i64 x2]] w fun e w' => e = .returned (.int .i64 (icmp (absV n1 x1) (absV n2 x2))) ∧ Below w.heap.size w w' := by
  have HC := Lib.hid (fun w => rcmp_any n1 n2 w (by omega) (by omega))
  have HZ := Lib.hid (cmpN_zero x1 x2 hn)
  have T := P2.new w g1 (S n1) x1 g2 (S n2) x2
  rcases Nat.eq_zero_or_pos n1 with e1 | p1
  · have y1 : (S n1).toList = [] := tl_nil (by rw [e1]; rfl)
    clear hn e1 hs1 hs2
    go_enter Tryz.func33, Tryz.ntmps33
    go_wp2_with (go_at_call 27; (with_reducible refine (HC.out _).mono ?_); rintro e w1 ⟨rfl, rfl⟩)
    go_ret
    exact ⟨ret_int HZ.out, T.bel⟩
  · have y1 := tl_ne (S_pos p1)
    have y2 := tl_ne' (S_pos p1)
    have y3 : (S n2).toList = [] := tl_nil (by rw [hn.resolve_left (by omega)]; rfl)
    clear hn p1 hs1 hs2
    go_enter Tryz.func33, Tryz.ntmps33
    go_wp2_with (go_at_call 27; (with_reducible refine (HC.out _).mono ?_); rintro e w1 ⟨rfl, rfl⟩)
    go_ret
    exact ⟨ret_int HZ.out, T.bel⟩
set_option maxRecDepth 100000 in
set_option maxHeartbeats 8000000 in
theorem rsize_lt (g1 : Bool) (n1 : Nat) (x1 : Int) (g2 : Bool) (n2 : Nat) (x2 : Int) (w : World) (h1 : okD g1 n1 x1) (h2 : okD g2 n2 x2) (p1 : 0 < n1) (p2 : 0 < n2) (h : ((S n1).size : Int) + x1 < (S n2).size + x2) : Calls Tryz.prog 33 #[.agg #[.bool g1, .string (S n1), .int .i64 x1], .agg #[.bool g2, .string (S n2), .int .i64 x2]] w fun e w' => e = .returned (.int .i64 (icmp (absV n1 x1) (absV n2 x2))) ∧ Below w.heap.size w w' := by
  obtain ⟨z1, _⟩ := ok_parts h1 p1
  obtain ⟨z2, _⟩ := ok_parts h2 p2
  obtain ⟨hs1, hx1, hx2⟩ := ok_size h1
  obtain ⟨hs2, hx3, hx4⟩ := ok_size h2
  have y1 := tl_ne (S_pos p1)
  have y2 := tl_ne' (S_pos p1)
  have y3 := tl_ne (S_pos p2)
  have y4 := tl_ne' (S_pos p2)
  have T := P2.new w g1 (S n1) x1 g2 (S n2) x2
  have BT := Lib.hid T
  have HZ : Hid (icmp (absV n1 x1) (absV n2 x2) = -1) := Lib.hid (by rw [cabs_far p1 p2 z1 z2 (by omega) (by omega) (by omega)]; unfold icmp; rw [if_pos h])
  rw [HZ.out]
  have s1 : IntKind.i64.wrap (((S n1).size : Int) + x1) = ((S n1).size : Int) + x1 := IntWalk.i64_in _ (by omega)
  have s2 : IntKind.i64.wrap (((S n2).size : Int) + x2) = ((S n2).size : Int) + x2 := IntWalk.i64_in _ (by omega)
  clear T h1 h2 z1 z2
  go_enter Tryz.func33, Tryz.ntmps33
  go_wp2
  go_quiet (fail)
  go_wp2
  go_ret
  exact ⟨rfl, (BT.out.dn _).bel⟩
set_option maxRecDepth 100000 in
set_option maxHeartbeats 8000000 in
theorem rsize_gt (g1 : Bool) (n1 : Nat) (x1 : Int) (g2 : Bool) (n2 : Nat) (x2 : Int) (w : World) (h1 : okD g1 n1 x1) (h2 : okD g2 n2 x2) (p1 : 0 < n1) (p2 : 0 < n2) (h : ((S n2).size : Int) + x2 < (S n1).size + x1) : Calls Tryz.prog 33 #[.agg #[.bool g1, .string (S n1), .int .i64 x1], .agg #[.bool g2, .string (S n2), .int .i64 x2]] w fun e w' => e = .returned (.int .i64 (icmp (absV n1 x1) (absV n2 x2))) ∧ Below w.heap.size w w' := by
  obtain ⟨z1, _⟩ := ok_parts h1 p1
  obtain ⟨z2, _⟩ := ok_parts h2 p2
  obtain ⟨hs1, hx1, hx2⟩ := ok_size h1
  obtain ⟨hs2, hx3, hx4⟩ := ok_size h2
  have y1 := tl_ne (S_pos p1)
  have y2 := tl_ne' (S_pos p1)
  have y3 := tl_ne (S_pos p2)
  have y4 := tl_ne' (S_pos p2)
  have T := P2.new w g1 (S n1) x1 g2 (S n2) x2
  have BT := Lib.hid T
  have HZ : Hid (icmp (absV n1 x1) (absV n2 x2) = 1) := Lib.hid (by rw [cabs_far p1 p2 z1 z2 (by omega) (by omega) (by omega)]; unfold icmp; rw [if_neg (by omega), if_pos h])
  rw [HZ.out]
  have s1 : IntKind.i64.wrap (((S n1).size : Int) + x1) = ((S n1).size : Int) + x1 := IntWalk.i64_in _ (by omega)
  have s2 : IntKind.i64.wrap (((S n2).size : Int) + x2) = ((S n2).size : Int) + x2 := IntWalk.i64_in _ (by omega)
  clear T h1 h2 z1 z2
  go_enter Tryz.func33, Tryz.ntmps33
  go_wp2
  go_quiet (fail)
  go_wp2
  go_ret
  exact ⟨rfl, (BT.out.dn _).bel⟩
set_option maxRecDepth 100000 in
set_option maxHeartbeats 8000000 in
theorem rsize_eqa (g1 : Bool) (n1 : Nat) (x1 : Int) (g2 : Bool) (n2 : Nat) (x2 : Int) (w : World) (h1 : okD g1 n1 x1) (h2 : okD g2 n2 x2) (p1 : 0 < n1) (p2 : 0 < n2) (h : ((S n1).size : Int) + x1 = (S n2).size + x2) (hle : (S n2).size ≤ (S n1).size) : Calls Tryz.prog 33 #[.agg #[.bool g1, .string (S n1), .int .i64 x1], .agg #[.bool g2, .string (S n2), .int .i64 x2]] w fun e w' => e = .returned (.int .i64 (icmp (absV n1 x1) (absV n2 x2))) ∧ Below w.heap.size w w' := by
  obtain ⟨z1, _⟩ := ok_parts h1 p1
  obtain ⟨z2, _⟩ := ok_parts h2 p2
  obtain ⟨hs1, hx1, hx2⟩ := ok_size h1
  obtain ⟨hs2, hx3, hx4⟩ := ok_size h2
  have y1 := tl_ne (S_pos p1)
  have y2 := tl_ne' (S_pos p1)
  have y3 := tl_ne (S_pos p2)
  have y4 := tl_ne' (S_pos p2)
  have T := P2.new w g1 (S n1) x1 g2 (S n2) x2
  have BT := Lib.hid T
  obtain ⟨kk, hkk⟩ : ∃ k, ((S n1).size - (S n2).size) = k := ⟨_, rfl⟩
  have HZ : Hid (cmpN (n1 * 10 ^ 0) (n2 * 10 ^ kk) = icmp (absV n1 x1) (absV n2 x2)) := Lib.hid (cmpN_abs (x1 + 400 - 0).toNat (by omega) (by omega))
  have t1 : (S (n1 * 10 ^ 0)).size ≤ 1120 := by have := len_pow p1 0; rw [S_size] at *; omega
  have t2 : (S (n2 * 10 ^ kk)).size ≤ 1120 := by have := len_pow p2 kk; rw [S_size, S_size] at *; omega
  have HC := Lib.hid (fun w => rcmpB (n1 * 10 ^ 0) (n2 * 10 ^ kk) w (by omega) (by omega))
  rw [← S_mul p1 (noughts_list 0), ← S_mul p2 (noughts_list kk), HZ.out] at HC
  have HO1 := Lib.hid (fun w => show Calls Tryz.prog 47 #[.int .i64 (0 : Int)] w _ from noughts_any 0 w (by omega))
  have HO2 := Lib.hid (fun w => show Calls Tryz.prog 47 #[.int .i64 (kk : Int)] w _ from noughts_any kk w (by omega))
  have oz1 := noughts_size 0
  have oz2 := noughts_size kk
  have s1 : IntKind.i64.wrap (((S n1).size : Int) + x1) = ((S n1).size : Int) + x1 := IntWalk.i64_in _ (by omega)
  have s2 : IntKind.i64.wrap (((S n2).size : Int) + x2) = ((S n2).size : Int) + x2 := IntWalk.i64_in _ (by omega)
  have u1 : IntKind.i64.wrap (((S n1).size : Int) - (S n1).size) = (0 : Int) := by rw [IntWalk.i64_in _ (by omega)]; omega
  have u2 : IntKind.i64.wrap (((S n1).size : Int) - (S n2).size) = (kk : Int) := by rw [IntWalk.i64_in _ (by omega)]; omega
  have ha1 : ¬ 9223372036854775807 < (S n1).size + (noughts 0).size := by omega
  have ha2 : (S n1).size + (noughts 0).size ≤ 9223372036854775807 := by omega
  have hb1 : ¬ 9223372036854775807 < (S n2).size + (noughts kk).size := by omega
  have hb2 : (S n2).size + (noughts kk).size ≤ 9223372036854775807 := by omega
  have HU1 := Lib.hid u1
  have HU2 := Lib.hid u2
  have HS1 := Lib.hid s1
  have HS2 := Lib.hid s2
  obtain ⟨IC, hIC⟩ : ∃ i, icmp (absV n1 x1) (absV n2 x2) = i := ⟨_, rfl⟩
  rw [hIC] at HC ⊢
  generalize noughts 0 = O1 at *
  generalize noughts kk = O2 at *
  clear oz1 oz2 T h1 h2 z1 z2 hIC HZ t1 t2 hkk u1 u2
  go_enter Tryz.func33, Tryz.ntmps33
  go_wp2
  go_quiet (fail)
  clear s1 s2
  go_wp2
  have u1 := HU1.out
  have u2 := HU2.out
  have w0 : IntKind.i64.wrap 0 = 0 := IntWalk.i64_in 0 (by omega)
  go_region_held3 (fun (W : World) => P2 w W g1 (S n1) x1 g2 (S n2) x2 ∧ W.cell? ⟨w.heap.size, 0, none⟩ = some (.bool g1) ∧ W.cell? ⟨w.heap.size, 1, none⟩ = some (.string (S n1)) ∧ W.cell? ⟨w.heap.size, 2, none⟩ = some (.int .i64 x1) ∧ W.cell? ⟨w.heap.size + 1, 0, none⟩ = some (.bool g2) ∧ W.cell? ⟨w.heap.size + 1, 1, none⟩ = some (.string (S n2)) ∧ W.cell? ⟨w.heap.size + 1, 2, none⟩ = some (.int .i64 x2)) ((first | (go_split_ands; exact P2.all (by assumption)) | (go_split_ands; exact P2.all (P2.d (BT.out.dn _))) | (go_split_ands; exact P2.all (P2.d (by assumption))) | (go_split_ands; exact P2.all (P2.step hX (by assumption))))) (first | (go_at_call 47; (with_reducible refine (HO1.out _).mono ?_); rintro e wn ⟨rfl, hX⟩) | (go_at_call 47; (with_reducible refine (HO2.out _).mono ?_); rintro e wn ⟨rfl, hX⟩) | (go_at_call 27; (with_reducible refine (HC.out _).mono ?_); rintro e wn ⟨rfl, hX⟩))
  rename_i hH
  have bl := hH.1.bel
  clear hH w0
  go_wp2
  go_ret
  exact ⟨rfl, bl⟩
set_option maxRecDepth 100000 in
set_option maxHeartbeats 8000000 in
theorem rsize_eqb (g1 : Bool) (n1 : Nat) (x1 : Int) (g2 : Bool) (n2 : Nat) (x2 : Int) (w : World) (h1 : okD g1 n1 x1) (h2 : okD g2 n2 x2) (p1 : 0 < n1) (p2 : 0 < n2) (h : ((S n1).size : Int) + x1 = (S n2).size + x2) (hle : (S n1).size < (S n2).size) : Calls Tryz.prog 33 #[.agg #[.bool g1, .string (S n1), .int .i64 x1], .agg #[.bool g2, .string (S n2), .int .i64 x2]] w fun e w' => e = .returned (.int .i64 (icmp (absV n1 x1) (absV n2 x2))) ∧ Below w.heap.size w w' := by
  obtain ⟨z1, _⟩ := ok_parts h1 p1
  obtain ⟨z2, _⟩ := ok_parts h2 p2
  obtain ⟨hs1, hx1, hx2⟩ := ok_size h1
  obtain ⟨hs2, hx3, hx4⟩ := ok_size h2
  have y1 := tl_ne (S_pos p1)
  have y2 := tl_ne' (S_pos p1)
  have y3 := tl_ne (S_pos p2)
  have y4 := tl_ne' (S_pos p2)
  have T := P2.new w g1 (S n1) x1 g2 (S n2) x2
  have BT := Lib.hid T
  obtain ⟨kk, hkk⟩ : ∃ k, ((S n2).size - (S n1).size) = k := ⟨_, rfl⟩
  have HZ : Hid (cmpN (n1 * 10 ^ kk) (n2 * 10 ^ 0) = icmp (absV n1 x1) (absV n2 x2)) := Lib.hid (cmpN_abs (x1 + 400 - kk).toNat (by omega) (by omega))
  have t1 : (S (n1 * 10 ^ kk)).size ≤ 1120 := by have := len_pow p1 kk; rw [S_size] at *; omega
  have t2 : (S (n2 * 10 ^ 0)).size ≤ 1120 := by have := len_pow p2 0; rw [S_size, S_size] at *; omega
  have HC := Lib.hid (fun w => rcmpB (n1 * 10 ^ kk) (n2 * 10 ^ 0) w (by omega) (by omega))
  rw [← S_mul p1 (noughts_list kk), ← S_mul p2 (noughts_list 0), HZ.out] at HC
  have HO1 := Lib.hid (fun w => show Calls Tryz.prog 47 #[.int .i64 (kk : Int)] w _ from noughts_any kk w (by omega))
  have HO2 := Lib.hid (fun w => show Calls Tryz.prog 47 #[.int .i64 (0 : Int)] w _ from noughts_any 0 w (by omega))
  have oz1 := noughts_size kk
  have oz2 := noughts_size 0
  have s1 : IntKind.i64.wrap (((S n1).size : Int) + x1) = ((S n1).size : Int) + x1 := IntWalk.i64_in _ (by omega)
  have s2 : IntKind.i64.wrap (((S n2).size : Int) + x2) = ((S n2).size : Int) + x2 := IntWalk.i64_in _ (by omega)
  have u1 : IntKind.i64.wrap (((S n2).size : Int) - (S n1).size) = (kk : Int) := by rw [IntWalk.i64_in _ (by omega)]; omega
  have u2 : IntKind.i64.wrap (((S n2).size : Int) - (S n2).size) = (0 : Int) := by rw [IntWalk.i64_in _ (by omega)]; omega
  have ha1 : ¬ 9223372036854775807 < (S n1).size + (noughts kk).size := by omega
  have ha2 : (S n1).size + (noughts kk).size ≤ 9223372036854775807 := by omega
  have hb1 : ¬ 9223372036854775807 < (S n2).size + (noughts 0).size := by omega
  have hb2 : (S n2).size + (noughts 0).size ≤ 9223372036854775807 := by omega
  have HU1 := Lib.hid u1
  have HU2 := Lib.hid u2
  have HS1 := Lib.hid s1
  have HS2 := Lib.hid s2
  obtain ⟨IC, hIC⟩ : ∃ i, icmp (absV n1 x1) (absV n2 x2) = i := ⟨_, rfl⟩
  rw [hIC] at HC ⊢
  generalize noughts kk = O1 at *
  generalize noughts 0 = O2 at *
  clear oz1 oz2 T h1 h2 z1 z2 hIC HZ t1 t2 hkk u1 u2
  go_enter Tryz.func33, Tryz.ntmps33
  go_wp2
  go_quiet (fail)
  clear s1 s2
  go_wp2
  have u1 := HU1.out
  have u2 := HU2.out
  have w0 : IntKind.i64.wrap 0 = 0 := IntWalk.i64_in 0 (by omega)
  go_region_held3 (fun (W : World) => P2 w W g1 (S n1) x1 g2 (S n2) x2 ∧ W.cell? ⟨w.heap.size, 0, none⟩ = some (.bool g1) ∧ W.cell? ⟨w.heap.size, 1, none⟩ = some (.string (S n1)) ∧ W.cell? ⟨w.heap.size, 2, none⟩ = some (.int .i64 x1) ∧ W.cell? ⟨w.heap.size + 1, 0, none⟩ = some (.bool g2) ∧ W.cell? ⟨w.heap.size + 1, 1, none⟩ = some (.string (S n2)) ∧ W.cell? ⟨w.heap.size + 1, 2, none⟩ = some (.int .i64 x2)) ((first | (go_split_ands; exact P2.all (by assumption)) | (go_split_ands; exact P2.all (P2.d (BT.out.dn _))) | (go_split_ands; exact P2.all (P2.d (by assumption))) | (go_split_ands; exact P2.all (P2.step hX (by assumption))))) (first | (go_at_call 47; (with_reducible refine (HO1.out _).mono ?_); rintro e wn ⟨rfl, hX⟩) | (go_at_call 47; (with_reducible refine (HO2.out _).mono ?_); rintro e wn ⟨rfl, hX⟩) | (go_at_call 27; (with_reducible refine (HC.out _).mono ?_); rintro e wn ⟨rfl, hX⟩))
  rename_i hH
  have bl := hH.1.bel
  clear hH w0
  go_wp2
  go_ret
  exact ⟨rfl, bl⟩
theorem rsize_any (g1 : Bool) (n1 : Nat) (x1 : Int) (g2 : Bool) (n2 : Nat) (x2 : Int) (w : World) (h1 : okD g1 n1 x1) (h2 : okD g2 n2 x2) : Calls Tryz.prog 33 #[.agg #[.bool g1, .string (S n1), .int .i64 x1], .agg #[.bool g2, .string (S n2), .int .i64 x2]] w fun e w' => e = .returned (.int .i64 (icmp (absV n1 x1) (absV n2 x2))) ∧ Below w.heap.size w w' := by
  have q1 := (ok_size h1).1
  have q2 := (ok_size h2).1
  by_cases hn : n1 = 0 ∨ n2 = 0
  · exact rsize_zero g1 n1 x1 g2 n2 x2 w q1 q2 hn
  have p1 : 0 < n1 := by omega
  have p2 : 0 < n2 := by omega
  rcases (show ((S n1).size : Int) + x1 < (S n2).size + x2 ∨ ((S n2).size : Int) + x2 < (S n1).size + x1 ∨ ((S n1).size : Int) + x1 = (S n2).size + x2 by omega) with h | h | h
  · exact rsize_lt g1 n1 x1 g2 n2 x2 w h1 h2 p1 p2 h
  · exact rsize_gt g1 n1 x1 g2 n2 x2 w h1 h2 p1 p2 h
  · by_cases hle : (S n2).size ≤ (S n1).size
    · exact rsize_eqa g1 n1 x1 g2 n2 x2 w h1 h2 p1 p2 h hle
    · exact rsize_eqb g1 n1 x1 g2 n2 x2 w h1 h2 p1 p2 h (by omega)
theorem ok_true {n : Nat} {x : Int} (h : okD true n x) : 0 < n := by
  rcases h with ⟨_, h, _⟩ | ⟨h, _⟩
  · cases h
  · exact h
theorem icmp_neg (a b : Nat) : icmp (-(a : Int)) (-(b : Int)) = icmp b a := by
  unfold icmp
  rcases (show a < b ∨ b < a ∨ a = b by omega) with h | h | h
  · rw [if_neg (by omega), if_pos (by omega), if_neg (by omega), if_pos (by omega)]
  · rw [if_pos (by omega), if_pos (by omega)]
  · rw [if_neg (by omega), if_neg (by omega), if_neg (by omega), if_neg (by omega)]
theorem rdcmp_any (g1 : Bool) (n1 : Nat) (x1 : Int) (g2 : Bool) (n2 : Nat) (x2 : Int) (w : World) (h1 : okD g1 n1 x1) (h2 : okD g2 n2 x2) : Calls Tryz.prog 11 #[.agg #[.bool g1, .string (S n1), .int .i64 x1], .agg #[.bool g2, .string (S n2), .int .i64 x2]] w fun e w' => e = .returned (.int .i64 (dcmp g1 n1 x1 g2 n2 x2)) ∧ Below w.heap.size w w' := by
  have HV := Lib.hid (dcmp_V h1 h2)
  have T := P2.new w g1 (S n1) x1 g2 (S n2) x2
  have H12 := Lib.hid (fun w => rsize_any g1 n1 x1 g2 n2 x2 w h1 h2)
  have H21 := Lib.hid (fun w => rsize_any g2 n2 x2 g1 n1 x1 w h2 h1)
  unfold V at HV
  obtain ⟨A, hA⟩ : ∃ A, absV n1 x1 = A := ⟨_, rfl⟩
  obtain ⟨B, hB⟩ : ∃ B, absV n2 x2 = B := ⟨_, rfl⟩
  rw [hA, hB] at HV H12 H21
  cases g1
  · cases g2
    · have HZ : Hid (icmp (A : Int) (B : Int) = dcmp false n1 x1 false n2 x2) := Lib.hid (by rw [HV.out]; simp)
      generalize icmp (A : Int) (B : Int) = i at *
      clear HV h1 h2 hA hB
      go_enter Tryz.func11, Tryz.ntmps11
      go_wp2_with (go_at_call 33; (with_reducible refine (H12.out _).mono ?_); rintro e wn ⟨rfl, hX⟩)
      go_ret
      exact ⟨ret_int HZ.out, (T.step hX).bel⟩
    · have hp := absV_pos x2 (ok_true h2)
      have HZ : Hid (1 = dcmp false n1 x1 true n2 x2) := Lib.hid (by rw [HV.out]; simp; unfold icmp; rw [if_neg (by omega), if_pos (by omega)])
      clear HV h1 h2 hA hB hp
      go_enter Tryz.func11, Tryz.ntmps11
      go_wp2
      go_ret
      exact ⟨ret_int HZ.out, T.bel⟩
  · cases g2
    · have hp := absV_pos x1 (ok_true h1)
      have HZ : Hid (-1 = dcmp true n1 x1 false n2 x2) := Lib.hid (by rw [HV.out]; simp; unfold icmp; rw [if_pos (by omega)])
      clear HV h1 h2 hA hB hp
      go_enter Tryz.func11, Tryz.ntmps11
      go_wp2
      go_ret
      exact ⟨ret_int HZ.out, T.bel⟩
    · have HZ : Hid (icmp (B : Int) (A : Int) = dcmp true n1 x1 true n2 x2) := Lib.hid (by rw [HV.out]; simp only [if_true]; rw [icmp_neg])
      generalize icmp (B : Int) (A : Int) = i at *
      clear HV h1 h2 hA hB
      go_enter Tryz.func11, Tryz.ntmps11
      go_wp2_with (go_at_call 33; (with_reducible refine (H21.out _).mono ?_); rintro e wn ⟨rfl, hX⟩)
      go_ret
      exact ⟨ret_int HZ.out, (T.step hX).bel⟩
end Go.Proofs.YtaldffdakfiecaaGreatDoor.Dec
