/-
  The law's walk: DecimalOrder.
-/
import Derived.Test.YtaphckipkaggkaaGreatDoorDecO
import Derived.Deep.DeepCutAuto
import Derived.Deep.RegionHeld3
namespace Go.Proofs.YtaphckipkaggkaaGreatDoor.Dec
open Go.RowKit
set_option linter.unusedVariables false
set_option linter.unusedSimpArgs false
open Go.Proofs.YtaphckipkaggkaaGreatDoor.Dig

theorem nrm_V {g : Bool} {N : Nat} {m : Int} (hm : -400 ≤ m) (he : (nrm g N m).2.2.2 = 0) : V (nrm g N m).1 (nrm g N m).2.1 (nrm g N m).2.2.1 = if g then -((N * 10 ^ (m + 400).toNat : Nat) : Int) else ((N * 10 ^ (m + 400).toNat : Nat) : Int) := by
  rcases Nat.eq_zero_or_pos N with h | h
  · subst h; rw [nrm_zero, Nat.zero_mul, V_zero]; split <;> rfl
  cases hf : fits N m with
  | false => rw [nrm_no h hf] at he; exact absurd he (by decide)
  | true =>
    rw [nrm_yes h hf]
    unfold V absV
    have e : (m + (zr N : Int) + 400).toNat = zr N + (m + 400).toNat := by omega
    rw [e, Nat.pow_add, ← Nat.mul_assoc, cut_mul]
theorem ok_nrm' (g : Bool) (n : Nat) (x : Int) : okD (nrm g n x).1 (nrm g n x).2.1 (nrm g n x).2.2.1 := ok_nrm g n x
theorem addR_V {g1 g2 : Bool} {n1 n2 : Nat} {x1 x2 : Int} (h1 : okD g1 n1 x1) (h2 : okD g2 n2 x2) : okD (addR g1 n1 x1 g2 n2 x2).1 (addR g1 n1 x1 g2 n2 x2).2.1 (addR g1 n1 x1 g2 n2 x2).2.2.1 ∧ ((addR g1 n1 x1 g2 n2 x2).2.2.2 = 0 → V (addR g1 n1 x1 g2 n2 x2).1 (addR g1 n1 x1 g2 n2 x2).2.1 (addR g1 n1 x1 g2 n2 x2).2.2.1 = V g1 n1 x1 + V g2 n2 x2) := by
  obtain ⟨_, a1, a2⟩ := ok_size h1
  obtain ⟨_, a3, a4⟩ := ok_size h2
  unfold addR
  by_cases e1 : n1 = 0
  · rw [if_pos e1]; subst e1
    exact ⟨h2, fun _ => by rw [V_zero]; simp⟩
  rw [if_neg e1]
  by_cases e2 : n2 = 0
  · rw [if_pos e2]; subst e2
    exact ⟨h1, fun _ => by rw [V_zero]; simp⟩
  rw [if_neg e2]
  obtain ⟨m, hm⟩ : ∃ m, min x1 x2 = m := ⟨_, rfl⟩
  rw [hm]
  have hm4 : -400 ≤ m := by omega
  have v1 : n1 * 10 ^ (x1 - m).toNat * 10 ^ (m + 400).toNat = absV n1 x1 := by
    unfold absV; rw [Nat.mul_assoc, ← Nat.pow_add]; congr 2; omega
  have v2 : n2 * 10 ^ (x2 - m).toNat * 10 ^ (m + 400).toNat = absV n2 x2 := by
    unfold absV; rw [Nat.mul_assoc, ← Nat.pow_add]; congr 2; omega
  generalize n1 * 10 ^ (x1 - m).toNat = A at *
  generalize n2 * 10 ^ (x2 - m).toNat = B at *
  have hV : ∀ g n x, V g n x = if g then -(absV n x : Int) else absV n x := fun _ _ _ => rfl
  rw [hV g1, hV g2, ← v1, ← v2]
  generalize hP : 10 ^ (m + 400).toNat = P at *
  unfold sumR
  by_cases hg : g1 = g2
  · rw [if_pos hg]; subst hg
    refine ⟨ok_nrm' _ _ _, fun he => ?_⟩
    rw [nrm_V hm4 he, hP, Nat.add_mul]
    split <;> omega
  · rw [if_neg hg]
    by_cases hl : A < B
    · rw [if_pos hl]
      refine ⟨ok_nrm' _ _ _, fun he => ?_⟩
      have hle := Nat.mul_le_mul_right P (Nat.le_of_lt hl)
      rw [nrm_V hm4 he, hP, Nat.sub_mul]
      cases g1 <;> cases g2 <;> simp_all <;> omega
    · rw [if_neg hl]
      refine ⟨ok_nrm' _ _ _, fun he => ?_⟩
      have hle := Nat.mul_le_mul_right P (Nat.le_of_not_lt hl)
      rw [nrm_V hm4 he, hP, Nat.sub_mul]
      cases g1 <;> cases g2 <;> simp_all <;> omega
theorem three_new (w : World) (o : Obj) (g1 : Bool) (s1 : ByteArray) (x1 : Int) (g2 : Bool) (s2 : ByteArray) (x2 : Int) (g3 : Bool) (s3 : ByteArray) (x3 : Int) :
    let W := ((((w.alloc o).alloc (.cells #[.bool g1, .string s1, .int .i64 x1] 23)).alloc (.cells #[.bool g2, .string s2, .int .i64 x2] 23)).alloc (.cells #[.bool g3, .string s3, .int .i64 x3] 23)).drew
    DC W (w.heap.size + 1) g1 s1 x1 ∧ DC W (w.heap.size + 1 + 1) g2 s2 x2 ∧ DC W (w.heap.size + 1 + 1 + 1) g3 s3 x3 ∧ Below w.heap.size w W := by
  have k1 := DC.new (w.alloc o) g1 s1 x1
  have k2 := DC.new ((w.alloc o).alloc (.cells #[.bool g1, .string s1, .int .i64 x1] 23)) g2 s2 x2
  have k3 := DC.new (((w.alloc o).alloc (.cells #[.bool g1, .string s1, .int .i64 x1] 23)).alloc (.cells #[.bool g2, .string s2, .int .i64 x2] 23)) g3 s3 x3
  rw [show (w.alloc o).heap.size = w.heap.size + 1 by simp] at k1
  rw [show ((w.alloc o).alloc (.cells #[.bool g1, .string s1, .int .i64 x1] 23)).heap.size = w.heap.size + 1 + 1 by simp] at k2
  rw [show (((w.alloc o).alloc (.cells #[.bool g1, .string s1, .int .i64 x1] 23)).alloc (.cells #[.bool g2, .string s2, .int .i64 x2] 23)).heap.size = w.heap.size + 1 + 1 + 1 by simp] at k3
  exact ⟨((k1.alloc _).alloc _).dr, (k2.alloc _).dr, k3.dr, (((((Below.refl _ _).alloc (Nat.le_refl _) _).alloc (by simp) _).alloc (by simp; try omega) _).alloc (by simp; try omega) _).drew⟩
end Go.Proofs.YtaphckipkaggkaaGreatDoor.Dec
