/-
  Contracts of package digits and its reference: differences of the reference; the pairs.
-/
import Derived.Test.YtjidjcnjgjmeoaaDoorDigD
namespace Go.Proofs.YtjidjcnjgjmeoaaDoor.Dig
open Go.RowKit
set_option linter.unusedVariables false
set_option linter.unusedSimpArgs false

set_option maxRecDepth 100000 in
set_option maxHeartbeats 2000000 in
theorem less_any (x y : Nat) (w : World) (hx : (S x).size ≤ 100000) (hy : (S y).size ≤ 100000) (hle : y ≤ x) : Calls Tryd.prog 44 #[.string (S x), .string (S y)] w fun e w' => e = .returned (.string (S (x - y))) ∧ Below w.heap.size w w' := by
  obtain ⟨n, hn⟩ : ∃ n : Nat, (S x).size = n := ⟨_, rfl⟩
  have hn' : n ≤ 100000 := by omega
  have hmk := mk_int n (by omega)
  have px : x < 10 ^ n := by rw [← hn]; exact size_pow
  go_enter Tryd.func44, Tryd.ntmps44
  go_wp2
  go_loopw [6, 7] (fun c i wr => ∃ (k q : Nat) (l : List Nat), k ≤ n ∧ q ≤ 1 ∧ i = .int .i64 k ∧ c = .int .i64 ((1 - q : Nat) : Int) ∧ Below w.heap.size w wr ∧ IRow wr w.heap.size l ∧ Acc (subTo x y k) k q n l) (fun _ i _ => n - (intOf i).toNat)
  case atStart => exact ⟨0, 1, _, by omega, by omega, rfl, rfl, (Below.refl _ _).alloc (Nat.le_refl _) _, IRow.made w n, by simpa [subTo, Nat.mod_one] using Acc.start n 1⟩
  case round =>
    obtain ⟨k, q, l, hk, c1, rfl, rfl, hb, hrow, hacc⟩ := hrel
    by_cases hlt : k < n
    · have HR := Lib.hid hrow
      have HA := Lib.hid hacc
      have hcell := hrow.cell (i := k) (by rw [hacc.1]; exact hlt)
      have hfro := hrow.frozen k
      have hblt := hrow.lt
      have a9 : x / 10 ^ k % 10 < 10 := Nat.mod_lt _ (by omega)
      have b9 : y / 10 ^ k % 10 < 10 := Nat.mod_lt _ (by omega)
      have HS := Lib.hid (subTo_succ x y k)
      generalize ha : x / 10 ^ k % 10 = da at *
      generalize hb' : y / 10 ^ k % 10 = db at *
      obtain ⟨c, hcc⟩ : ∃ c : Nat, 1 - q = c := ⟨_, rfl⟩
      have hcb : c ≤ 1 := by omega
      simp only [hcc]
      have Hcc := Lib.hid hcc
      clear hrow hacc hcc
      have Ha := Lib.hid ha; clear ha
      have Hb := Lib.hid hb'; clear hb'
      go_wp2_with (go_at_call 45; (first | (with_reducible refine (at_is Ha (by omega) (by omega)).mono ?_) | (with_reducible refine (at_is Hb (by omega) (by omega)).mono ?_)); rintro e w' ⟨rfl, rfl⟩)
      go_roundw
      case rel =>
        have hcc := Hcc.out
        exact ⟨k + 1, (q + (9 + da - db)) / 10, _, by omega, by omega, by go_num, congrArg (Value.int .i64) (by omega), hb.setCell (Nat.le_refl _) _, HR.out.set (c := (q + (9 + da - db)) % 10) (by omega), HA.out.step hlt rfl HS.out⟩
      case measure => simp [intOf]; omega
    · obtain rfl : k = n := by omega
      have e2 : subTo x y k = 10 ^ k + (x - y) := by
        unfold subTo; rw [Nat.mod_eq_of_lt px, Nat.mod_eq_of_lt (by omega)]; omega
      rw [e2] at hacc
      have HD := Lib.hid (Acc.done1 hacc c1)
      have HT := Lib.hid (text_any l w.heap.size k wr hrow hacc.1 (by omega) hacc.2.1)
      clear e2 px hacc hrow
      go_wp2_with (go_at_call 46; (with_reducible refine HT.out.mono ?_); rintro e w2 ⟨rfl, hb2⟩)
      go_ret
      exact ⟨ret_str (by rw [HD.out]), hb.trans (hb2.mono hb.size)⟩

theorem S_short {x n : Nat} (h : (S x).size ≤ n) {y : Nat} (hy : y ≤ x) : (S y).size ≤ n := by
  rw [S_size, num_len] at *; omega
theorem add_size {x y : Nat} (hx : (S x).size ≤ 600) (hy : (S y).size ≤ 600) : (S (x + y)).size ≤ 601 := by
  have h1 := Nat.lt_of_lt_of_le (size_pow (n := x)) (Nat.pow_le_pow_right (show 0 < 10 by omega) hx)
  have h2 := Nat.lt_of_lt_of_le (size_pow (n := y)) (Nat.pow_le_pow_right (show 0 < 10 by omega) hy)
  rw [S_size, num_len]
  revert h1 h2
  generalize hm : 600 = m
  rw [show 601 = m + 1 by omega, Nat.pow_succ]
  omega
end Go.Proofs.YtjidjcnjgjmeoaaDoor.Dig
