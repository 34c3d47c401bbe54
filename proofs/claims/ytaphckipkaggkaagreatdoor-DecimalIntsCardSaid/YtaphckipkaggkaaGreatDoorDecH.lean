/-
  Contracts of the reference of digits: the quotient of zeros.
-/
import Derived.Test.YtaphckipkaggkaaGreatDoorDecG
namespace Go.Proofs.YtaphckipkaggkaaGreatDoor.Dec
open Go.RowKit
set_option linter.unusedVariables false
set_option linter.unusedSimpArgs false
open Go.Proofs.YtaphckipkaggkaaGreatDoor.Dig

theorem nought_get {k i : Nat} (h : i < (noughts k).size) : ((noughts k)[i]'h) = 48 := by
  have : (noughts k).data.toList[i]'h = 48 := by
    have e : (noughts k).data.toList = List.replicate k 48 := rfl
    simp [e]
  exact this
theorem nought_cat {k i : Nat} (h : i < (noughts k).size) : Num (S 0 ++ (noughts k).extract i (i + 1)) 0 := by
  have e : (S 0 ++ (noughts k).extract i (i + 1)).data.toList = [48] := by
    rw [Joins.data_append, Lib.extract_data, noughts_list]
    have hk : i < k := by rw [noughts_size] at h; exact h
    rw [show (S 0).data.toList = [] from rfl, List.nil_append, List.drop_replicate, Nat.add_sub_cancel_left, List.take_replicate, show min 1 (k - i) = 1 by omega]; rfl
  exact ⟨by rw [e]; rfl, by rw [e]; rfl⟩
theorem zeros_num (k : Nat) : Num ⟨(List.replicate k (48 : UInt8)).toArray⟩ 0 := by
  have e : (⟨(List.replicate k (48 : UInt8)).toArray⟩ : ByteArray).data.toList = List.replicate k 48 := rfl
  refine ⟨?_, ?_⟩
  · rw [e]; unfold digs; rw [List.all_eq_true]; intro c hc; rw [List.mem_replicate] at hc; rw [hc.2]; rfl
  · rw [e]
    induction k with
    | zero => rfl
    | succ k ih => rw [List.replicate_succ]; unfold val; rw [ih rfl]; simp
end Go.Proofs.YtaphckipkaggkaaGreatDoor.Dec
