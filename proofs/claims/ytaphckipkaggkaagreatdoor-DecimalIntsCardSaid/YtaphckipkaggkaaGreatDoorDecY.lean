/-
  Contracts of the reference of decimal: differences, the order.
-/
import Derived.Test.YtaphckipkaggkaaGreatDoorDecX
import Derived.Deep.QuietTactic
import Derived.BigQuiet
namespace Go.Proofs.YtaphckipkaggkaaGreatDoor.Dec
open Go.RowKit
set_option linter.unusedVariables false
set_option linter.unusedSimpArgs false
open Go.Proofs.YtaphckipkaggkaaGreatDoor.Dig

set_option maxRecDepth 100000 in
set_option maxHeartbeats 8000000 in
theorem rneg_zero (g : Bool) (n : Nat) (x : Int) (w : World) (hn : n = 0) : Calls Tryz.prog 13 #[.agg #[.bool g, .string (S n), .int .i64 x]] w fun e w' => e = .returned (.agg #[.bool g, .string (S n), .int .i64 x]) ∧ Below w.heap.size w w' := by
  have ey : (S n).toList = [] := tl_nil (by rw [hn]; rfl)
  clear hn
  go_enter Tryz.func13, Tryz.ntmps13
  go_wp2
  exact bodyPost_ret (v := .agg #[.bool g, .string (S n), .int .i64 x]) (by simp [results, Tryz.results13, go_sem]) rfl ⟨rfl, ((Below.refl _ _).alloc (Nat.le_refl _) _).alloc (by simp) _⟩
set_option maxRecDepth 100000 in
set_option maxHeartbeats 8000000 in
theorem rneg_pos (g : Bool) (n : Nat) (x : Int) (w : World) (hn : 0 < n) : Calls Tryz.prog 13 #[.agg #[.bool g, .string (S n), .int .i64 x]] w fun e w' => e = .returned (.agg #[.bool (!g), .string (S n), .int .i64 x]) ∧ Below w.heap.size w w' := by
  have ey := tl_ne (S_pos hn)
  have ey' := tl_ne' (S_pos hn)
  clear hn
  go_enter Tryz.func13, Tryz.ntmps13
  go_wp2
  exact bodyPost_ret (v := .agg #[.bool (!g), .string (S n), .int .i64 x]) (by simp [results, Tryz.results13, go_sem]) rfl ⟨rfl, ((Below.refl _ _).alloc (Nat.le_refl _) _).alloc (by simp) _⟩
theorem rneg_any {g : Bool} {n : Nat} {x : Int} (w : World) (h : okD g n x) : Calls Tryz.prog 13 #[.agg #[.bool g, .string (S n), .int .i64 x]] w fun e w' => e = .returned (.agg #[.bool (ngG g n), .string (S n), .int .i64 x]) ∧ Below w.heap.size w w' := by
  rcases h with ⟨rfl, rfl, rfl⟩ | ⟨h, r⟩
  · exact rneg_zero false 0 0 w rfl
  · rw [show ngG g n = !g from if_neg (by omega)]
    exact rneg_pos g n x w h
theorem cmpN_scale (a b : Nat) {P : Nat} (hP : 0 < P) : cmpN a b = icmp ((a * P : Nat) : Int) ((b * P : Nat) : Int) := by
  unfold cmpN icmp
  rcases (show a < b ∨ b < a ∨ a = b by omega) with h | h | h
  · have := Nat.mul_lt_mul_of_pos_right h hP
    rw [if_pos h, if_pos (by omega)]
  · have := Nat.mul_lt_mul_of_pos_right h hP
    rw [if_neg (by omega), if_neg (by omega), if_neg (by omega), if_pos (by omega)]
  · subst h
    rw [if_neg (by omega), if_pos rfl, if_neg (by omega), if_neg (by omega)]
theorem cmpN_abs {n1 n2 k1 k2 : Nat} {x1 x2 : Int} (c : Nat) (h1 : x1 + 400 = ((k1 + c : Nat) : Int)) (h2 : x2 + 400 = ((k2 + c : Nat) : Int)) : cmpN (n1 * 10 ^ k1) (n2 * 10 ^ k2) = icmp (absV n1 x1) (absV n2 x2) := by
  rw [cmpN_scale _ _ (pow_pos' c)]
  unfold absV
  rw [h1, h2, Int.toNat_natCast, Int.toNat_natCast, Nat.pow_add, Nat.pow_add, Nat.mul_assoc, Nat.mul_assoc]
theorem cmpN_zero {n1 n2 : Nat} (x1 x2 : Int) (h : n1 = 0 ∨ n2 = 0) : cmpN n1 n2 = icmp (absV n1 x1) (absV n2 x2) := by
  rcases Nat.eq_zero_or_pos n1 with e1 | p1
  · subst e1
    rw [absV_zero]
    rcases Nat.eq_zero_or_pos n2 with e2 | p2
    · subst e2; rw [absV_zero]; rfl
    · have := absV_pos x2 p2
      unfold cmpN icmp
      rw [if_pos p2, if_pos (by omega)]
  · obtain rfl : n2 = 0 := by omega
    have := absV_pos x1 p1
    rw [absV_zero]
    unfold cmpN icmp
    rw [if_neg (by omega), if_neg (by omega), if_neg (by omega), if_pos (by omega)]
theorem cabs_far {n1 n2 : Nat} {x1 x2 : Int} (p1 : 0 < n1) (p2 : 0 < n2) (z1 : zr n1 = 0) (z2 : zr n2 = 0) (h1 : -400 ≤ x1) (h2 : -400 ≤ x2) (h : ((S n1).size : Int) + x1 ≠ (S n2).size + x2) : icmp (absV n1 x1) (absV n2 x2) = icmp ((S n1).size + x1) ((S n2).size + x2) := by
  have := cabs_pow (x1 := x1) (x2 := x2) p1 p2 z1 z2 (e1 := (x1 + 400).toNat) (e2 := (x2 + 400).toNat) (by omega) (by omega)
  unfold absV
  rw [← this]
  unfold cabs
  have hne : icmp (((S n1).size : Int) + x1) ((S n2).size + x2) ≠ 0 := by
    unfold icmp
    split
    · decide
    · split
      · decide
      · omega
  rw [if_pos hne]
theorem P2.new (w : World) (g1 : Bool) (s1 : ByteArray) (x1 : Int) (g2 : Bool) (s2 : ByteArray) (x2 : Int) : P2 w ((w.alloc (.cells #[.bool g1, .string s1, .int .i64 x1] 23)).alloc (.cells #[.bool g2, .string s2, .int .i64 x2] 23)) g1 s1 x1 g2 s2 x2 := by
  obtain ⟨a, b, c⟩ := two_new w g1 s1 x1 g2 s2 x2
  exact ⟨a, b, c⟩
theorem P2.dn {w W : World} {g1 g2 : Bool} {s1 s2 : ByteArray} {x1 x2 : Int} (h : P2 w W g1 s1 x1 g2 s2 x2) (n : Nat) : P2 w (W.drewN n) g1 s1 x1 g2 s2 x2 := ⟨h.a, h.b, h.bel.trans ⟨rfl, rfl, rfl, Nat.le_refl _, fun _ _ => rfl⟩⟩
theorem ok_true {n : Nat} {x : Int} (h : okD true n x) : 0 < n := by
  rcases h with ⟨_, h, _⟩ | ⟨h, _⟩
  · cases h
  · exact h
theorem icmp_neg (a b : Nat) : icmp (-(a : Int)) (-(b : Int)) = icmp b a := by
  unfold icmp
  rcases (show a < b ∨ b < a ∨ a = b by omega) with h | h | h
  · rw [if_neg (by omega), if_pos (by omega), if_neg (by omega), if_pos (by omega)]
  · rw [if_pos (by omega), if_pos (by omega)]
  · rw [if_neg (by omega), if_neg (by omega), if_neg (by omega), if_neg (by omega)]
end Go.Proofs.YtaphckipkaggkaaGreatDoor.Dec
