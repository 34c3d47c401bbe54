/-
  Contracts of package digits and its reference: sums.
-/
import Derived.Test.YtjidjcnjgjmeoaaDoorDigB
import Derived.Deep.OwnRows
import Derived.Laws.BytesArg
namespace Go.Proofs.YtjidjcnjgjmeoaaDoor.Dig
open Go.RowKit
set_option linter.unusedVariables false
set_option linter.unusedSimpArgs false

theorem strOfNums_bytes (l : List UInt8) : strOfNums (l.map fun c => (c.toNat : Int)) = ⟨l.toArray⟩ := by
  have e : (fun n : Int => UInt8.ofNat n.toNat) ∘ (fun c : UInt8 => (c.toNat : Int)) = id := by
    funext c
    show UInt8.ofNat ((c.toNat : Int).toNat) = c
    rw [Int.toNat_natCast]
    exact UInt8.ofNat_toNat
  unfold strOfNums
  rw [List.map_map, e, List.map_id]
/-- Block b is a row of just these bytes. -/
def BRow (w : World) (b : Nat) (l : List UInt8) : Prop := w.rowIs b 5 l.length (fun i => .int .u8 ((l.getD i 0).toNat : Int))
section
variable {w w' : World} {b : Nat} {l : List UInt8}
theorem BRow.cell (h : BRow w b l) {i : Nat} (hi : i < l.length) : w.cell? ⟨b, i, none⟩ = some (.int .u8 ((l.getD i 0).toNat : Int)) := World.rowIs.cell h hi
theorem BRow.frozen (h : BRow w b l) (i : Nat) : w.frozen? ⟨b, i, none⟩ = false := World.rowIs.frozen h i
theorem BRow.set (h : BRow w b l) {i : Nat} {c : UInt8} {v : Int} (hv : v = (c.toNat : Int)) : BRow (w.setCell ⟨b, i, none⟩ (.int .u8 v)) b (l.set i c) := by
  subst hv
  unfold BRow
  rw [List.length_set]
  refine (World.rowIs.set h i _).congr fun j hj => ?_
  by_cases e : j = i
  · subst e; simp [List.getD_eq_getElem?_getD, hj]
  · simp [List.getD_eq_getElem?_getD, e, List.getElem?_set_ne (Ne.symm e)]
theorem BRow.lt (h : BRow w b l) : b < w.heap.size := World.rowIs.lt h
theorem BRow.below {B : Nat} (h : BRow w b l) (hb : Below B w w') (hg : b < B) : BRow w' b l := World.rowIs.of_block h (hb.block b hg)
theorem BRow.alloc (h : BRow w b l) (o : Obj) : BRow (w.alloc o) b l := World.rowIs.alloc h o
theorem BRow.setOther (h : BRow w b l) {a : Addr} (ha : b ≠ a.block) (v : Value) : BRow (w.setCell a v) b l := World.rowIs.setOther h ha v
theorem BRow.made (w : World) (n : Nat) : BRow (w.alloc (.cells (madeCells #[.int .u8 0] n) 5)) w.heap.size (List.replicate n 0) := by
  unfold BRow
  rw [List.length_replicate]
  refine (World.rowIs_made w (.int .u8 0) n 5).congr fun i hi => ?_
  simp [List.getD_eq_getElem?_getD, hi]
/-- The conversion of the row to a string. -/
theorem BRow.conv (h : BRow w b l) {n : Nat} (hn : l.length = n) : ∀ dst, Tryd.prog.underlying dst = some .string → (convert 61 dst (.slice (some ⟨b, 0, none⟩) n n)).run Tryd.prog w = .ok (.string ⟨l.toArray⟩) w := by
  intro dst hd
  have := run_convert_bytes_arg (P := Tryd.prog) w 61 5 Tryd.underlying61 Tryd.underlying5 b 0 n n (l.map fun c => (c.toNat : Int)) (by simpa using hn) (fun i hi => by
    rw [Nat.zero_add, h.cell (by omega)]
    simp [List.getD_eq_getElem?_getD, hn, hi, List.getElem?_eq_getElem (show i < l.length by omega)]) dst hd
  rw [this, strOfNums_bytes]
end
theorem info_u8 : (Tryd.prog.info? 5).map (fun i => (i.zero, i.size, i.bytes)) = some (some (.int .u8 0), 1, 1) := by kernel_rfl
theorem set_high {n i : Nat} (hi : i < n) (tl : List UInt8) (c : UInt8) : (List.replicate (n - i) 0 ++ tl).set (n - 1 - i) c = List.replicate (n - (i + 1)) 0 ++ c :: tl := by
  obtain ⟨m, hm⟩ : ∃ m, n - i = m + 1 := ⟨n - i - 1, by omega⟩
  have e1 : n - 1 - i = m := by omega
  have e2 : n - (i + 1) = m := by omega
  rw [hm, e1, e2, List.replicate_succ', List.append_assoc, List.set_append_right _ _ (by simp)]
  simp

theorem set_high1 {n i : Nat} (hi : i < n + 1) (tl : List UInt8) (c : UInt8) : (List.replicate (n + 1 - i) 0 ++ tl).set (n - i) c = List.replicate (n + 1 - (i + 1)) 0 ++ c :: tl := set_high hi tl c
theorem mk_u8 (n : Nat) (h : n ≤ 200000000) (w : World) : (Instr.makeSlice 61 (.int .i64 (n : Int)) (.int .i64 (n : Int))).run Tryd.prog w = .ok (.slice (some ⟨w.heap.size, 0, none⟩) n n) (w.alloc (.cells (madeCells #[.int .u8 0] n) 5)) :=
  run_make_row' (P := Tryd.prog) 61 5 (.int .u8 0) 1 Tryd.underlying61 info_u8 rfl .i64 .i64 n (by omega) (by omega) w
theorem mk_u8' (n : Nat) (h : n ≤ 100000000) (w : World) : (Instr.makeSlice 61 (.int .i64 ((n : Int) + 1)) (.int .i64 ((n : Int) + 1))).run Tryd.prog w = .ok (.slice (some ⟨w.heap.size, 0, none⟩) (n + 1) (n + 1)) (w.alloc (.cells (madeCells #[.int .u8 0] (n + 1)) 5)) := by
  have := mk_u8 (n + 1) (by omega) w
  rwa [Int.natCast_add] at this
theorem digit_is {x i d : Nat} {w : World} (h : Hid (x / 10 ^ i % 10 = d)) (hx : (S x).size ≤ 9223372036854775807) (hi : i ≤ 9223372036854775807) : Calls Tryd.prog 41 #[.string (S x), .int .i64 i] w fun e w' => e = .returned (.int .i64 d) ∧ w = w' :=
  (digit_any x i w hx hi).mono fun _ _ ⟨he, hw⟩ => ⟨by rw [he, h.out], hw⟩
theorem at_is {x i d : Nat} {w : World} (h : Hid (x / 10 ^ i % 10 = d)) (hx : (S x).size ≤ 9223372036854775807) (hi : i ≤ 9223372036854775807) : Calls Tryd.prog 45 #[.string (S x), .int .i64 i] w fun e w' => e = .returned (.int .i64 d) ∧ w = w' :=
  (at_any x i w hx hi).mono fun _ _ ⟨he, hw⟩ => ⟨by rw [he, h.out], hw⟩
theorem size_pow {n : Nat} : n < 10 ^ (S n).size := by rw [S_size, ← num_len]; exact Nat.le_refl _
theorem Num_row {s : ByteArray} {n k : Nat} (h : n < 10 ^ k) (hs : s.data.toList = dig n k) : Num s n := by
  refine ⟨by rw [hs]; exact dig_digs _ _, by rw [hs, val_dig, Nat.mod_eq_of_lt h]⟩

set_option maxRecDepth 100000 in
set_option maxHeartbeats 1000000 in
theorem add_any (x y : Nat) (w : World) (hx : (S x).size ≤ 600) (hy : (S y).size ≤ 600) : Calls Tryd.prog 20 #[.string (S x), .string (S y)] w fun e w' => e = .returned (.tuple #[.string (S (limS (x + y))), .int .i64 (limE (x + y))]) ∧ Below w.heap.size w w' := by
  obtain ⟨n, hmax⟩ : ∃ n : Nat, max ((S x).size : Int) ((S y).size : Int) = (n : Int) := ⟨max (S x).size (S y).size, by omega⟩
  have hxn : (S x).size ≤ n := by omega
  have hyn : (S y).size ≤ n := by omega
  have hn : n ≤ 600 := by omega
  have hmk := mk_u8' n (by omega)
  go_enter Tryd.func20, Tryd.ntmps20
  go_wp2_with (go_at_call 36; (with_reducible refine (valid_S (by assumption)).mono ?_); rintro e w' ⟨rfl, rfl⟩)
  go_loopw [8, 28] (fun c i wr => ∃ k : Nat, k ≤ n + 1 ∧ i = .int .i64 k ∧ c = .int .i64 ((sumTo x y k / 10 ^ k : Nat) : Int) ∧ Below w.heap.size w wr ∧ BRow wr w.heap.size (List.replicate (n + 1 - k) 0 ++ dig (sumTo x y k) k)) (fun _ i _ => n + 1 - (intOf i).toNat)
  case atStart => exact ⟨0, by omega, rfl, by simp [sumTo, Nat.mod_one], (Below.refl _ _).alloc (Nat.le_refl _) _, by simpa [dig] using BRow.made w (n + 1)⟩
  case round =>
    obtain ⟨k, hk, rfl, rfl, hb, hrow⟩ := hrel
    by_cases hlt : k < n + 1
    · have c1 := sumTo_carry x y k
      have HS := Lib.hid (sumTo_succ x y k)
      have HR := Lib.hid hrow
      have hlen : (List.replicate (n + 1 - k) 0 ++ dig (sumTo x y k) k).length = n + 1 := by simp [dig_len]; omega
      have hcell := hrow.cell (i := n - k) (by omega)
      have hfro := hrow.frozen (n - k)
      have hblt := hrow.lt
      have a9 : x / 10 ^ k % 10 < 10 := Nat.mod_lt _ (by omega)
      have b9 : y / 10 ^ k % 10 < 10 := Nat.mod_lt _ (by omega)
      have HX := Lib.hid (dig_step (sumTo x y k) (x / 10 ^ k % 10 + y / 10 ^ k % 10) k)
      have HY := Lib.hid (carry_step (sumTo x y k) (x / 10 ^ k % 10 + y / 10 ^ k % 10) k)
      have HH := Lib.hid (set_high1 hlt (dig (sumTo x y k) k))
      generalize hc : sumTo x y k / 10 ^ k = c at *
      generalize ha : x / 10 ^ k % 10 = da at *
      generalize hb' : y / 10 ^ k % 10 = db at *
      clear hrow hlen
      have Hc := Lib.hid hc; clear hc
      have Ha := Lib.hid ha; clear ha
      have Hb := Lib.hid hb'; clear hb'
      go_wp2_with (go_at_call 41; (first | (with_reducible refine (digit_is Ha (by omega) (by omega)).mono ?_) | (with_reducible refine (digit_is Hb (by omega) (by omega)).mono ?_)); rintro e w' ⟨rfl, rfl⟩)
      go_roundw
      case rel =>
        refine ⟨k + 1, by omega, by go_num, congrArg (Value.int .i64) (by rw [HS.out, HY.out]; omega), hb.setCell (Nat.le_refl _) _, ?_⟩
        rw [HS.out, HX.out, ← HH.out]
        exact HR.out.set (by rw [dgt_toNat (by omega)]; omega)
      case measure => simp [intOf]; omega
    · obtain rfl : k = n + 1 := by omega
      have px := Nat.lt_of_lt_of_le (size_pow (n := x)) (Nat.pow_le_pow_right (show 0 < 10 by omega) hxn)
      have py := Nat.lt_of_lt_of_le (size_pow (n := y)) (Nat.pow_le_pow_right (show 0 < 10 by omega) hyn)
      have e1 : 10 ^ (n + 1) = 10 ^ n * 10 := Nat.pow_succ ..
      have e2 : sumTo x y (n + 1) = x + y := sumTo_all (by omega) (by omega)
      have hN : Num ⟨(List.replicate (n + 1 - (n + 1)) 0 ++ dig (sumTo x y (n + 1)) (n + 1)).toArray⟩ (x + y) := by
        refine Num_row (k := n + 1) (by omega) ?_
        rw [e2, Nat.sub_self]; rfl
      have hcv := hrow.conv (n := n + 1) (by simp [dig_len]) 9 Tryd.underlying9
      have hlim : (S (x + y)).size ≤ 9223372036854775807 := by
        rw [S_size]
        have : (num (x + y)).length ≤ n + 1 := num_len.2 (by omega)
        omega
      clear e1 e2 hrow px py
      generalize List.replicate (n + 1 - (n + 1)) 0 ++ dig (sumTo x y (n + 1)) (n + 1) = row at *
      generalize sumTo x y (n + 1) / 10 ^ (n + 1) = cr at *
      go_wp2_with (first | (go_at_call 39; (with_reducible refine (trimLeft_num _ _ _ hN).mono ?_); rintro e w' ⟨rfl, rfl⟩) | (go_at_call 42; (with_reducible refine (limited_any _ _ hlim).mono ?_); rintro e w' ⟨rfl, rfl⟩))
      go_ret2
      exact ⟨rfl, hb⟩
end Go.Proofs.YtjidjcnjgjmeoaaDoor.Dig
