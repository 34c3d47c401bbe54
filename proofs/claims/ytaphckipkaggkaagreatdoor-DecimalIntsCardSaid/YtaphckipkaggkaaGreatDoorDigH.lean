/-
  Contracts of package digits: quotients.
-/
import Derived.Test.YtaphckipkaggkaaGreatDoorDigG
import Derived.Lib.SmallJoins
namespace Go.Proofs.YtaphckipkaggkaaGreatDoor.Dig
open Go.RowKit
set_option linter.unusedVariables false
set_option linter.unusedSimpArgs false

theorem S_nil {n : Nat} (h : n = 0) : (S n).size = 0 := by subst h; rfl
theorem S_pos {n : Nat} (h : 0 < n) : ¬ (S n).size = 0 := by
  rw [S_size]; intro e
  have := num_nil.1 (List.eq_nil_of_length_eq_zero e); omega
theorem S_byte {x i : Nat} (h : i < (S x).size) : 48 ≤ ((S x)[i]).toNat ∧ ((S x)[i]).toNat ≤ 57 := by
  rw [S_get h]; exact isd_iff.1 (digs_get (num_digs x) _)
theorem pre_zero {x la : Nat} (h : (S x).size = la) : x / 10 ^ (la - 0) = 0 := by rw [Nat.sub_zero, ← h]; exact Nat.div_eq_of_lt size_pow
theorem pre_take {x la i : Nat} (h : (S x).size = la) (hi : i ≤ la) : val ((num x).take i) = x / 10 ^ (la - i) := by
  have hl : (num x).length = la := by rw [← S_size]; exact h
  rw [val_take (num_digs x) (by omega), val_num, hl]
theorem pre_succ {x la i : Nat} (h : (S x).size = la) (hi : i < (S x).size) : x / 10 ^ (la - (i + 1)) = 10 * (x / 10 ^ (la - i)) + (((S x)[i]).toNat - 48) := by
  rw [← pre_take h (by omega), ← pre_take h (by omega), val_take_succ (by rw [← S_size]; exact hi), Nat.mul_comm]; rfl
/-- One more digit behind a numeral. -/
theorem Num_snoc {x r i : Nat} (hi : i < (S x).size) : Num (S r ++ (S x).extract i (i + 1)) (10 * r + (((S x)[i]).toNat - 48)) := by
  have e : (S r ++ (S x).extract i (i + 1)).data.toList = num r ++ [(S x)[i]] := by
    rw [Joins.data_append, Lib.extract_data, S_list]
    congr 1
    rw [show i + 1 - i = 1 by omega, List.drop_eq_getElem_cons (by rw [size_list]; exact hi)]
    rfl
  have hb := S_byte hi
  refine ⟨?_, ?_⟩
  · rw [e, digs_snoc, num_digs, Bool.true_and]; exact isd_iff.2 hb
  · rw [e, val_snoc, val_num, Nat.mul_comm]
theorem set_low {la i q k : Nat} (hi : i < la) (hk : k < 10) : (dig q i ++ List.replicate (la - i) 0).set i (dgt k) = dig (10 * q + k) (i + 1) ++ List.replicate (la - (i + 1)) 0 := by
  obtain ⟨m, hm⟩ : ∃ m, la - i = m + 1 := ⟨la - i - 1, by omega⟩
  rw [hm, show la - (i + 1) = m by omega, List.set_append_right _ _ (by rw [dig_len]; omega), dig_len, Nat.sub_self, List.replicate_succ, List.set_cons_zero, dig_snoc hk, List.append_assoc]
  rfl
theorem rest_size {r y m : Nat} (hy : (S y).size ≤ m) (hr : r < 10 * y) : (S r).size ≤ m + 1 := by
  have h2 := Nat.lt_of_lt_of_le (size_pow (n := y)) (Nat.pow_le_pow_right (show 0 < 10 by omega) hy)
  rw [S_size, num_len, Nat.pow_succ]; omega
theorem cmp_ge {r y k : Nat} (hy : 0 < y) (hk : k < r / y) : 0 ≤ cmpN (r - k * y) y := by
  have := (take_iff hy (Nat.le_of_lt hk)).2 hk
  unfold cmpN; split
  · omega
  · split <;> omega
theorem cmp_less {r y k : Nat} (hy : 0 < y) (hk : k = r / y) : cmpN (r - k * y) y = -1 := by
  have := (take_iff (r := r) (k := k) hy (by omega))
  exact cmpN_lt (by omega)

end Go.Proofs.YtaphckipkaggkaaGreatDoor.Dig
