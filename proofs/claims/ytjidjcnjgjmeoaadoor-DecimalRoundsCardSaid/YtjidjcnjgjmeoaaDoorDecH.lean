/-
  Contracts of the reference of digits: the quotient of zeros.
-/
import Derived.Test.YtjidjcnjgjmeoaaDoorDecG
namespace Go.Proofs.YtjidjcnjgjmeoaaDoor.Dec
open Go.RowKit
set_option linter.unusedVariables false
set_option linter.unusedSimpArgs false
open Go.Proofs.YtjidjcnjgjmeoaaDoor.Dig

theorem nought_get {k i : Nat} (h : i < (noughts k).size) : ((noughts k)[i]'h) = 48 := by
  have : (noughts k).data.toList[i]'h = 48 := by
    have e : (noughts k).data.toList = List.replicate k 48 := rfl
    simp [e]
  exact this
theorem nought_cat {k i : Nat} (h : i < (noughts k).size) : Num (S 0 ++ (noughts k).extract i (i + 1)) 0 := by
  have e : (S 0 ++ (noughts k).extract i (i + 1)).data.toList = [48] := by
    rw [Joins.data_append, Lib.extract_data, noughts_list]
    have hk : i < k := by rw [noughts_size] at h; exact h
    rw [show (S 0).data.toList = [] from rfl, List.nil_append, List.drop_replicate, Nat.add_sub_cancel_left, List.take_replicate, show min 1 (k - i) = 1 by omega]; rfl
  exact ⟨by rw [e]; rfl, by rw [e]; rfl⟩
theorem zeros_num (k : Nat) : Num ⟨(List.replicate k (48 : UInt8)).toArray⟩ 0 := by
  have e : (⟨(List.replicate k (48 : UInt8)).toArray⟩ : ByteArray).data.toList = List.replicate k 48 := rfl
  refine ⟨?_, ?_⟩
  · rw [e]; unfold digs; rw [List.all_eq_true]; intro c hc; rw [List.mem_replicate] at hc; rw [hc.2]; rfl
  · rw [e]
    induction k with
    | zero => rfl
    | succ k ih => rw [List.replicate_succ]; unfold val; rw [ih rfl]; simp
set_option maxRecDepth 100000 in
set_option maxHeartbeats 4000000 in
theorem rquo_noughts (k y : Nat) (w : World) (hk : k ≤ 600) (hy : (S y).size ≤ 600) (hy0 : 0 < y) : Calls Tryd.prog 24 #[.string (noughts k), .string (S y)] w fun e w' => e = .returned (.tuple #[.string (S 0), .string (S 0), .int .i64 0]) ∧ Below w.heap.size w w' := by
  have hla : (noughts k).size = k := noughts_size k
  have hmk := mk_u8 k (by omega)
  have ey := tl_ne (S_pos hy0)
  have ey' := tl_ne' (S_pos hy0)
  have hcmp : cmpN 0 y = -1 := cmpN_lt hy0
  have HG := Lib.hid (fun i (h : i < (noughts k).size) => nought_cat h)
  have HC := Lib.hid (fun w => rcmp_any 0 y w (by decide) (by omega))
  rw [hcmp] at HC
  have HZ := Lib.hid (fun (s : ByteArray) (w : World) (h1 : s.size ≤ 9223372036854775807) (h : Num s 0) => strip_any s 0 w h1 h)
  have HS := Lib.hid (fun i => cat_size 0 (noughts k) i)
  obtain ⟨z, hz⟩ : ∃ z, S 0 = z := ⟨_, rfl⟩
  have hzz : z.size = 0 := by rw [← hz]; rfl
  have HE : Hid (z = ⟨#[]⟩) := Lib.hid hz.symm
  rw [hz] at HG HC HZ HS ⊢
  obtain ⟨a, ha⟩ : ∃ a, noughts k = a := ⟨_, rfl⟩
  rw [ha] at HG HS hla ⊢
  clear hz ha hcmp
  go_enter Tryd.func24, Tryd.ntmps24
  go_wp2
  go_loopw [8, 9] (fun r i wr => ∃ i' : Nat, i' ≤ k ∧ i = .int .i64 i' ∧ r = .string z ∧ Below w.heap.size w wr ∧ BRow wr w.heap.size (List.replicate i' 48 ++ List.replicate (k - i') 0)) (fun _ i _ => k - (intOf i).toNat)
  case atStart => exact ⟨0, by omega, rfl, by rw [HE.out], (Below.refl _ _).alloc (Nat.le_refl _) _, by simpa using BRow.made w k⟩
  case round =>
    obtain ⟨i, hi, rfl, rfl, hb, hrow⟩ := hrel
    by_cases hlt : i < k
    · have hix : i < a.size := by omega
      have hN := HG.out i hix
      have hcs := HS.out i
      have hlen : (List.replicate i (48 : UInt8) ++ List.replicate (k - i) 0).length = k := by simp; omega
      have hcell := hrow.cell (i := i) (by rw [hlen]; exact hlt)
      have hfro := hrow.frozen i
      have HR := Lib.hid hrow
      have HH : Hid ((List.replicate i (48 : UInt8) ++ List.replicate (k - i) 0).set i 48 = List.replicate (i + 1) 48 ++ List.replicate (k - (i + 1)) 0) := Lib.hid (by
        obtain ⟨m, hm⟩ : ∃ m, k - i = m + 1 := ⟨k - i - 1, by omega⟩
        rw [hm, show k - (i + 1) = m by omega, List.set_append_right _ _ (by simp), List.length_replicate, Nat.sub_self, List.replicate_succ, List.set_cons_zero, List.replicate_succ', List.append_assoc]; rfl)
      clear hrow hlen
      go_wp2_with (go_at_call 22; (with_reducible refine (HZ.out _ _ (by omega) hN).mono ?_); rintro e w' ⟨rfl, rfl⟩)
      go_loopw [8, 10] (fun r c wq => r = .string z ∧ c = .int .i64 0 ∧ wr = wq) (fun _ _ _ => 0)
      case atStart => exact ⟨rfl, rfl, rfl⟩
      case round =>
        obtain ⟨rfl, rfl, rfl⟩ := hrel
        go_wp2_with (go_at_call 43; (with_reducible refine (HC.out _).mono ?_); rintro e w' ⟨rfl, rfl⟩)
        go_roundw
        case rel =>
          refine ⟨i + 1, by omega, by go_num, rfl, hb.setCell (Nat.le_refl _) _, ?_⟩
          rw [← HH.out]
          exact HR.out.set rfl
        case measure => simp [intOf]; omega
    · obtain rfl : i = k := by omega
      have hN : Num ⟨(List.replicate i (48 : UInt8) ++ List.replicate (i - i) 0).toArray⟩ 0 := by
        rw [Nat.sub_self, List.replicate_zero, List.append_nil]; exact zeros_num i
      have hlen : (List.replicate i (48 : UInt8) ++ List.replicate (i - i) 0).length = i := by simp
      have hcv := hrow.conv (n := i) hlen 9 Tryd.underlying9
      have hrl : (⟨(List.replicate i (48 : UInt8) ++ List.replicate (i - i) 0).toArray⟩ : ByteArray).size ≤ 600 := by simp [ByteArray.size]; omega
      clear hrow hlen
      generalize List.replicate i (48 : UInt8) ++ List.replicate (i - i) 0 = row at *
      go_wp2_with (go_at_call 22; (with_reducible refine (HZ.out _ _ (by omega) hN).mono ?_); rintro e w' ⟨rfl, rfl⟩)
      go_ret3
      exact ⟨rfl, hb⟩
end Go.Proofs.YtjidjcnjgjmeoaaDoor.Dec
