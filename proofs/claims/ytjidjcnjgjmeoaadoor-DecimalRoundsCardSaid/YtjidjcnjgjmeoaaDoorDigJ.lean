/-
  Contracts of package digits and its reference: division by zero, shifts, final zeros.
-/
import Derived.Test.YtjidjcnjgjmeoaaDoorDigI
namespace Go.Proofs.YtjidjcnjgjmeoaaDoor.Dig
open Go.RowKit
set_option linter.unusedVariables false
set_option linter.unusedSimpArgs false

theorem quo_zero (x : Nat) (w : World) (hx : (S x).size ≤ 600) : Calls Tryd.prog 18 #[.string (S x), .string (S 0)] w fun e w' => e = .returned (.tuple #[.string (S 0), .string (S 0), .int .i64 14]) ∧ w = w' := by
  have ey : (S 0).toList = [] := tl_nil rfl
  have ez : (S 0).size ≤ 600 := by rw [S_nil rfl]; omega
  go_enter Tryd.func18, Tryd.ntmps18
  go_wp2_with (go_at_call 36; (with_reducible refine (valid_S (by assumption)).mono ?_); rintro e w' ⟨rfl, rfl⟩)
  go_ret3
  exact ⟨rfl, rfl⟩
theorem rquo_zero (x : Nat) (w : World) (hx : (S x).size ≤ 600) : Calls Tryd.prog 24 #[.string (S x), .string (S 0)] w fun e w' => e = .returned (.tuple #[.string (S 0), .string (S 0), .int .i64 14]) ∧ w = w' := by
  have ey : (S 0).toList = [] := tl_nil rfl
  go_enter Tryd.func24, Tryd.ntmps24
  go_wp2
  go_ret3
  exact ⟨rfl, rfl⟩

theorem mul_pow_dig (x n k : Nat) : dig (x * 10 ^ n) (k + n) = dig x k ++ List.replicate n 48 := by
  induction n with
  | zero => simp
  | succ n ih =>
    have : x * 10 ^ (n + 1) = 10 * (x * 10 ^ n) + 0 := by rw [Nat.pow_succ, ← Nat.mul_assoc, Nat.mul_comm]; rfl
    rw [this, ← Nat.add_assoc, dig_snoc (by omega), ih, List.append_assoc, List.replicate_succ', dgt_zero]
theorem num_mul {x n : Nat} (hx : 0 < x) : num (x * 10 ^ n) = num x ++ List.replicate n 48 := by
  have h1 : dig x (num x).length = num x := by
    have := dig_val (num_digs x); rwa [val_num] at this
  have h2 : x * 10 ^ n < 10 ^ ((num x).length + n) := by
    rw [Nat.pow_add]
    exact Nat.mul_lt_mul_of_pos_right (num_len.1 (Nat.le_refl _)) (pow_pos' n)
  rw [← strip_dig h2, mul_pow_dig, h1]
  refine strip_id ?_
  rw [List.head?_append]
  have h3 := (numB_iff.1 (num_numB x)).2
  have h4 : num x ≠ [] := fun e => by rw [num_nil] at e; omega
  cases hc : num x with
  | nil => exact absurd hc h4
  | cons c l => rw [hc] at h3; simpa using h3
theorem S_mul {x n : Nat} (hx : 0 < x) {s : ByteArray} (hs : s.data.toList = List.replicate n 48) : S x ++ s = S (x * 10 ^ n) :=
  ba_ext (by rw [Joins.data_append, S_list, S_list, num_mul hx, hs])
theorem S_cut {x m : Nat} (hm : m < (S x).size) : (S x).extract 0 ((S x).size - m) = S (x / 10 ^ m) := by
  apply ba_ext
  have hl : (num x).length = (S x).size := (S_size x).symm
  rw [Lib.extract_data, S_list, S_list, List.drop_zero, Nat.sub_zero]
  have h1 : val ((num x).take ((S x).size - m)) = x / 10 ^ m := by
    rw [val_take (num_digs x) (by omega), val_num, hl]; congr 2; omega
  have h2 : numB ((num x).take ((S x).size - m)) = true := by
    rw [numB_iff]
    refine ⟨digs_take (num_digs x) _, ?_⟩
    rw [List.head?_take, if_neg (by omega)]
    exact (numB_iff.1 (num_numB x)).2
  rw [← num_val h2, h1]
theorem S_gone {x m : Nat} (hm : (S x).size ≤ m) : x / 10 ^ m = 0 := Nat.div_eq_of_lt (Nat.lt_of_lt_of_le size_pow (Nat.pow_le_pow_right (by omega) hm))
theorem repeat_zeros (n : Nat) : Lib.repeatL [48] n = List.replicate n 48 := by
  induction n with
  | zero => rfl
  | succ n ih => rw [Lib.repeatL, ih, List.replicate_succ]; rfl
/-- So many zeros. -/
def noughts (n : Nat) : ByteArray := ⟨(List.replicate n 48).toArray⟩
theorem noughts_list (n : Nat) : (noughts n).data.toList = List.replicate n 48 := rfl
theorem noughts_size (n : Nat) : (noughts n).size = n := by rw [← size_list, noughts_list, List.length_replicate]
theorem repeat_any (n : Nat) (w : World) (hn : n ≤ 600) : Calls Tryd.prog 38 #[.string ⟨#[48]⟩, .int .i64 n] w fun e w' => e = .returned (.string (noughts n)) ∧ Below w.heap.size w w' :=
  (Tryd.strings_Repeat ⟨#[48]⟩ n w (by omega) (by show 1 * n ≤ _; omega)).mono fun _ _ ⟨he, hb⟩ => ⟨by rw [he]; show Ending.returned (.string ⟨(Lib.repeatL [48] n).toArray⟩) = _; rw [repeat_zeros]; rfl, hb⟩

set_option maxRecDepth 100000 in
set_option maxHeartbeats 1000000 in
theorem noughts_any (n : Nat) (w : World) (hn : n ≤ 4000) : Calls Tryd.prog 23 #[.int .i64 n] w fun e w' => e = .returned (.string (noughts n)) ∧ Below w.heap.size w w' := by
  have hmk := mk_u8 n (by omega)
  go_enter Tryd.func23, Tryd.ntmps23
  go_wp2
  go_loopw [4] (fun i wr => ∃ k : Nat, k ≤ n ∧ i = .int .i64 k ∧ Below w.heap.size w wr ∧ BRow wr w.heap.size (List.replicate k 48 ++ List.replicate (n - k) 0)) (fun i _ => n - (intOf i).toNat)
  case atStart => exact ⟨0, by omega, rfl, (Below.refl _ _).alloc (Nat.le_refl _) _, by simpa using BRow.made w n⟩
  case round =>
    obtain ⟨k, hk, rfl, hb, hrow⟩ := hrel
    have hlen : (List.replicate k (48 : UInt8) ++ List.replicate (n - k) 0).length = n := by simp; omega
    by_cases hlt : k < n
    · have hcell := hrow.cell (i := k) (by omega)
      have hfro := hrow.frozen k
      have HR := Lib.hid hrow
      have HS : Hid ((List.replicate k (48 : UInt8) ++ List.replicate (n - k) 0).set k 48 = List.replicate (k + 1) 48 ++ List.replicate (n - (k + 1)) 0) := Lib.hid (by
        obtain ⟨m, hm⟩ : ∃ m, n - k = m + 1 := ⟨n - k - 1, by omega⟩
        rw [hm, show n - (k + 1) = m by omega, List.set_append_right _ _ (by simp), List.length_replicate, Nat.sub_self, List.replicate_succ, List.set_cons_zero, List.replicate_succ', List.append_assoc]; rfl)
      clear hrow hlen
      go_wp2
      go_roundw
      case rel =>
        refine ⟨k + 1, by omega, by go_num, hb.setCell (Nat.le_refl _) _, ?_⟩
        rw [← HS.out]
        exact HR.out.set rfl
      case measure => simp [intOf]; omega
    · obtain rfl : k = n := by omega
      have hcv := hrow.conv (n := k) hlen 9 Tryd.underlying9
      have HE : Hid ((⟨(List.replicate k (48 : UInt8) ++ List.replicate (k - k) 0).toArray⟩ : ByteArray) = noughts k) := Lib.hid (by rw [Nat.sub_self]; unfold noughts; simp)
      clear hrow hlen
      go_wp2
      go_ret
      exact ⟨ret_str (ba_ext (by simp [noughts])), hb⟩

def shN (x : Nat) (n : Int) : Nat := if n < 0 then x / 10 ^ (-n).toNat else if 600 - ((S x).size : Int) < n then 0 else x * 10 ^ n.toNat
def shE (x : Nat) (n : Int) : Int := if x ≠ 0 ∧ 600 - ((S x).size : Int) < n then 2 else 0
set_option maxHeartbeats 1000000 in
theorem shift_any (x : Nat) (n : Int) (w : World) (hx : (S x).size ≤ 600) (hn : -9223372036854775808 ≤ n ∧ n ≤ 9223372036854775807) : Calls Tryd.prog 17 #[.string (S x), .int .i64 n] w fun e w' => e = .returned (.tuple #[.string (S (shN x n)), .int .i64 (shE x n)]) ∧ Below w.heap.size w w' := by
  by_cases h0 : x = 0
  · have e1 : Hid (shN x n = 0) := Lib.hid (by unfold shN; subst h0; simp)
    have e2 : Hid (shE x n = 0) := Lib.hid (by unfold shE; simp [h0])
    have ey : (S x).toList = [] := tl_nil (S_nil h0)
    clear h0
    go_enter Tryd.func17, Tryd.ntmps17
    go_wp2_with (go_at_call 36; (with_reducible refine (valid_S (by assumption)).mono ?_); rintro e w' ⟨rfl, rfl⟩)
    go_ret2
    exact ⟨by rw [e1.out, e2.out]; rfl, Below.refl _ _⟩
  have hp : 0 < (S x).size := Nat.pos_of_ne_zero (S_pos (by omega))
  have ey := tl_ne (S_pos (n := x) (by omega))
  have ey' := tl_ne' (S_pos (n := x) (by omega))
  by_cases h1 : n < 0
  · have e2 : Hid (shE x n = 0) := Lib.hid (by unfold shE; rw [if_neg (by omega)])
    by_cases h2 : n ≤ -((S x).size : Int)
    · have e1 : Hid (shN x n = 0) := Lib.hid (by unfold shN; rw [if_pos h1]; exact S_gone (by omega))
      go_enter Tryd.func17, Tryd.ntmps17
      go_wp2_with (go_at_call 36; (with_reducible refine (valid_S (by assumption)).mono ?_); rintro e w' ⟨rfl, rfl⟩)
      go_ret2
      exact ⟨by rw [e1.out, e2.out]; rfl, Below.refl _ _⟩
    · have e1 : Hid ((S x).extract 0 (((S x).size : Int) + n).toNat = S (shN x n)) := Lib.hid (by
        rw [show (((S x).size : Int) + n).toNat = (S x).size - (-n).toNat by omega, S_cut (by omega)]
        unfold shN; rw [if_pos h1])
      go_enter Tryd.func17, Tryd.ntmps17
      go_wp2_with (go_at_call 36; (with_reducible refine (valid_S (by assumption)).mono ?_); rintro e w' ⟨rfl, rfl⟩)
      go_ret2
      exact ⟨by rw [← e1.out, e2.out]; rfl, Below.refl _ _⟩
  · by_cases h2 : 600 - ((S x).size : Int) < n
    · have e1 : Hid (shN x n = 0) := Lib.hid (by unfold shN; rw [if_neg h1, if_pos h2])
      have e2 : Hid (shE x n = 2) := Lib.hid (by unfold shE; rw [if_pos ⟨h0, h2⟩])
      go_enter Tryd.func17, Tryd.ntmps17
      go_wp2_with (go_at_call 36; (with_reducible refine (valid_S (by assumption)).mono ?_); rintro e w' ⟨rfl, rfl⟩)
      go_ret2
      exact ⟨by rw [e1.out, e2.out]; rfl, Below.refl _ _⟩
    · obtain ⟨m, rfl⟩ := Int.eq_ofNat_of_zero_le (show 0 ≤ n by omega)
      have e1 : Hid (S x ++ noughts m = S (shN x (m : Int))) := Lib.hid (by
        unfold shN; rw [if_neg h1, if_neg h2]
        exact S_mul (by omega) (noughts_list m))
      have e2 : Hid (shE x (m : Int) = 0) := Lib.hid (by unfold shE; rw [if_neg (by omega)])
      have hz := noughts_size m
      go_enter Tryd.func17, Tryd.ntmps17
      go_wp2_with (first | (go_at_call 36; (with_reducible refine (valid_S (by assumption)).mono ?_); rintro e w' ⟨rfl, rfl⟩) | (go_at_call 38; (with_reducible refine (repeat_any _ _ (by omega)).mono ?_); rintro e w1 ⟨rfl, hb⟩))
      go_ret2
      exact ⟨by rw [← e1.out, e2.out]; rfl, hb⟩
end Go.Proofs.YtjidjcnjgjmeoaaDoor.Dig
