/-
  Contracts of package digits and its reference: differences; sums of the reference.
-/
import Derived.Test.YtjidjcnjgjmeoaaDoorDigC
namespace Go.Proofs.YtjidjcnjgjmeoaaDoor.Dig
open Go.RowKit
set_option linter.unusedVariables false
set_option linter.unusedSimpArgs false

set_option maxRecDepth 100000 in
set_option maxHeartbeats 1000000 in
theorem minus_any (x y : Nat) (w : World) (hx : (S x).size ≤ 100000) (hy : (S y).size ≤ 100000) (hle : y ≤ x) : Calls Tryd.prog 40 #[.string (S x), .string (S y)] w fun e w' => e = .returned (.string (S (x - y))) ∧ Below w.heap.size w w' := by
  obtain ⟨n, hn⟩ : ∃ n : Nat, (S x).size = n := ⟨_, rfl⟩
  have hn' : n ≤ 100000 := by omega
  have hmk := mk_u8 n (by omega)
  have px : x < 10 ^ n := by rw [← hn]; exact size_pow
  go_enter Tryd.func40, Tryd.ntmps40
  go_wp2
  go_loopw [7, 15] (fun c i wr => ∃ k : Nat, k ≤ n ∧ i = .int .i64 k ∧ c = .int .i64 ((1 - subTo x y k / 10 ^ k : Nat) : Int) ∧ Below w.heap.size w wr ∧ BRow wr w.heap.size (List.replicate (n - k) 0 ++ dig (subTo x y k) k)) (fun _ i _ => n - (intOf i).toNat)
  case atStart => exact ⟨0, by omega, rfl, by simp [subTo, Nat.mod_one], (Below.refl _ _).alloc (Nat.le_refl _) _, by simpa [dig] using BRow.made w n⟩
  case round =>
    obtain ⟨k, hk, rfl, rfl, hb, hrow⟩ := hrel
    by_cases hlt : k < n
    · have c1 := subTo_carry x y k
      have HS := Lib.hid (subTo_succ x y k)
      have HR := Lib.hid hrow
      have hlen : (List.replicate (n - k) 0 ++ dig (subTo x y k) k).length = n := by simp [dig_len]; omega
      have hcell := hrow.cell (i := n - 1 - k) (by omega)
      have hfro := hrow.frozen (n - 1 - k)
      have hblt := hrow.lt
      have a9 : x / 10 ^ k % 10 < 10 := Nat.mod_lt _ (by omega)
      have b9 : y / 10 ^ k % 10 < 10 := Nat.mod_lt _ (by omega)
      have HX := Lib.hid (dig_step (subTo x y k) (9 + x / 10 ^ k % 10 - y / 10 ^ k % 10) k)
      have HY := Lib.hid (carry_step (subTo x y k) (9 + x / 10 ^ k % 10 - y / 10 ^ k % 10) k)
      have HH := Lib.hid (set_high hlt (dig (subTo x y k) k))
      generalize hc : subTo x y k / 10 ^ k = q at *
      generalize ha : x / 10 ^ k % 10 = da at *
      generalize hb' : y / 10 ^ k % 10 = db at *
      obtain ⟨c, hcc⟩ : ∃ c : Nat, 1 - q = c := ⟨_, rfl⟩
      have hcb : c ≤ 1 := by omega
      simp only [hcc]
      have Hcc := Lib.hid hcc
      have Hn := Lib.hid hn
      clear hrow hlen hcc
      have Hc := Lib.hid hc; clear hc
      have Ha := Lib.hid ha; clear ha
      have Hb := Lib.hid hb'; clear hb'
      by_cases hneg : da < db + c
      all_goals
        go_wp2_with (go_at_call 41; (first | (with_reducible refine (digit_is Ha (by omega) (by omega)).mono ?_) | (with_reducible refine (digit_is Hb (by omega) (by omega)).mono ?_)); rintro e w' ⟨rfl, rfl⟩)
        go_roundw
        case rel =>
          have hcc := Hcc.out
          refine ⟨k + 1, by omega, by go_num, congrArg (Value.int .i64) (by rw [HS.out, HY.out]; omega), hb.setCell (Nat.le_refl _) _, ?_⟩
          rw [HS.out, HX.out, ← HH.out]
          exact HR.out.set (by rw [dgt_toNat (by omega)]; omega)
        case measure => simp [intOf]; omega
    · obtain rfl : k = n := by omega
      have e2 := subTo_all px hle
      have hN : Num ⟨(List.replicate (k - k) 0 ++ dig (subTo x y k) k).toArray⟩ (x - y) := by
        refine Num_row (k := k) (by omega) ?_
        rw [← e2, Nat.sub_self]; rfl
      have hcv := hrow.conv (n := k) (by simp [dig_len]) 9 Tryd.underlying9
      clear e2 hrow px
      generalize List.replicate (k - k) 0 ++ dig (subTo x y k) k = row at *
      generalize subTo x y k / 10 ^ k = cr at *
      go_wp2_with (go_at_call 39; (with_reducible refine (trimLeft_num _ _ _ hN).mono ?_); rintro e w' ⟨rfl, rfl⟩)
      go_ret
      exact ⟨rfl, hb⟩
def subE (x y : Nat) : Int := if x < y then 2 else 0
set_option maxHeartbeats 400000 in
theorem sub_any (x y : Nat) (w : World) (hx : (S x).size ≤ 600) (hy : (S y).size ≤ 600) : Calls Tryd.prog 34 #[.string (S x), .string (S y)] w fun e w' => e = .returned (.tuple #[.string (S (x - y)), .int .i64 (subE x y)]) ∧ Below w.heap.size w w' := by
  by_cases h : x < y
  · have HC := Lib.hid (cmpN_lt h)
    have HE : Hid (subE x y = 2) := if_pos h
    have HZ : Hid (x - y = 0) := Lib.hid (by omega)
    go_enter Tryd.func34, Tryd.ntmps34
    go_wp2_with (first | (go_at_call 36; (with_reducible refine (valid_S (by assumption)).mono ?_); rintro e w' ⟨rfl, rfl⟩) | (go_at_call 33; (with_reducible refine (cmp_any _ _ _ (by omega) (by omega)).mono ?_); rintro e w' ⟨rfl, rfl⟩; rw [HC.out]))
    go_ret2
    exact ⟨by rw [HZ.out, HE.out]; rfl, Below.refl _ _⟩
  · have HC := Lib.hid (show 0 ≤ cmpN x y by unfold cmpN; split <;> (try split) <;> omega)
    have hle : y ≤ x := by omega
    have HE : Hid (subE x y = 0) := if_neg h
    go_enter Tryd.func34, Tryd.ntmps34
    go_wp2_with (first | (go_at_call 36; (with_reducible refine (valid_S (by assumption)).mono ?_); rintro e w' ⟨rfl, rfl⟩) | (go_at_call 33; (with_reducible refine (cmp_any _ _ _ (by omega) (by omega)).mono ?_); rintro e w' ⟨rfl, rfl⟩; have HC' := HC.out) | (go_at_call 40; (with_reducible refine (minus_any _ _ _ (by omega) (by omega) hle).mono ?_); rintro e w' ⟨rfl, hb⟩))
    go_ret2
    exact ⟨by rw [HE.out]; rfl, hb⟩

/-- Block b is a row of just these numbers. -/
def IRow (w : World) (b : Nat) (l : List Nat) : Prop := w.rowIs b 3 l.length (fun i => .int .i64 ((l.getD i 0 : Nat) : Int))
section
variable {w w' : World} {b : Nat} {l : List Nat}
theorem IRow.cell (h : IRow w b l) {i : Nat} (hi : i < l.length) : w.cell? ⟨b, i, none⟩ = some (.int .i64 ((l.getD i 0 : Nat) : Int)) := World.rowIs.cell h hi
theorem IRow.frozen (h : IRow w b l) (i : Nat) : w.frozen? ⟨b, i, none⟩ = false := World.rowIs.frozen h i
theorem IRow.set (h : IRow w b l) {i c : Nat} {v : Int} (hv : v = (c : Int)) : IRow (w.setCell ⟨b, i, none⟩ (.int .i64 v)) b (l.set i c) := by
  subst hv
  unfold IRow
  rw [List.length_set]
  refine (World.rowIs.set h i _).congr fun j hj => ?_
  by_cases e : j = i
  · subst e; simp [List.getD_eq_getElem?_getD, hj]
  · simp [List.getD_eq_getElem?_getD, e, List.getElem?_set_ne (Ne.symm e)]
theorem IRow.lt (h : IRow w b l) : b < w.heap.size := World.rowIs.lt h
theorem IRow.below {B : Nat} (h : IRow w b l) (hb : Below B w w') (hg : b < B) : IRow w' b l := World.rowIs.of_block h (hb.block b hg)
theorem IRow.alloc (h : IRow w b l) (o : Obj) : IRow (w.alloc o) b l := World.rowIs.alloc h o
theorem IRow.setOther (h : IRow w b l) {a : Addr} (ha : b ≠ a.block) (v : Value) : IRow (w.setCell a v) b l := World.rowIs.setOther h ha v
theorem IRow.made (w : World) (n : Nat) : IRow (w.alloc (.cells (madeCells #[.int .i64 0] n) 3)) w.heap.size (List.replicate n 0) := by
  unfold IRow
  rw [List.length_replicate]
  refine (World.rowIs_made w (.int .i64 0) n 3).congr fun i hi => ?_
  simp [List.getD_eq_getElem?_getD, hi]
end
theorem info_int : (Tryd.prog.info? 3).map (fun i => (i.zero, i.size, i.bytes)) = some (some (.int .i64 0), 1, 8) := by kernel_rfl
theorem mk_int (n : Nat) (h : n ≤ 200000000) (w : World) : (Instr.makeSlice 64 (.int .i64 (n : Int)) (.int .i64 (n : Int))).run Tryd.prog w = .ok (.slice (some ⟨w.heap.size, 0, none⟩) n n) (w.alloc (.cells (madeCells #[.int .i64 0] n) 3)) :=
  run_make_row' (P := Tryd.prog) 64 3 (.int .i64 0) 8 Tryd.underlying64 info_int rfl .i64 .i64 n (by omega) (by omega) w
theorem mk_int' (n : Nat) (h : n ≤ 100000000) (w : World) : (Instr.makeSlice 64 (.int .i64 ((n : Int) + 1)) (.int .i64 ((n : Int) + 1))).run Tryd.prog w = .ok (.slice (some ⟨w.heap.size, 0, none⟩) (n + 1) (n + 1)) (w.alloc (.cells (madeCells #[.int .i64 0] (n + 1)) 3)) := by
  have := mk_int (n + 1) (by omega) w
  rwa [Int.natCast_add] at this

set_option maxRecDepth 100000 in
set_option maxHeartbeats 1000000 in
theorem text_any (l : List Nat) (b n : Nat) (w : World) (hr : IRow w b l) (hl : l.length = n) (hn : n ≤ 100000) (h9 : ∀ z ∈ l, z ≤ 9) : Calls Tryd.prog 46 #[.slice (some ⟨b, 0, none⟩) n n] w fun e w' => e = .returned (.string (S (lev l))) ∧ Below w.heap.size w w' := by
  have hmk := mk_u8 n (by omega)
  have hbl := hr.lt
  have HR0 := Lib.hid hr
  have H9 := Lib.hid h9
  have HL := Lib.hid hl
  clear hr h9 hl
  go_enter Tryd.func46, Tryd.ntmps46
  go_wp2
  go_loopw [4] (fun i wr => ∃ k : Nat, k ≤ n ∧ i = .int .i64 k ∧ Below w.heap.size w wr ∧ BRow wr w.heap.size (List.replicate (n - k) 0 ++ rtext (l.take k))) (fun i _ => n - (intOf i).toNat)
  case atStart => exact ⟨0, by omega, rfl, (Below.refl _ _).alloc (Nat.le_refl _) _, by simpa [rtext] using BRow.made w n⟩
  case round =>
    obtain ⟨k, hk, rfl, hb, hrow⟩ := hrel
    have hl := HL.out
    by_cases hlt : k < n
    · have HR := Lib.hid hrow
      have hlen : (List.replicate (n - k) 0 ++ rtext (l.take k)).length = n := by simp [rtext_len]; omega
      have hcell := hrow.cell (i := n - 1 - k) (by omega)
      have hfro := hrow.frozen (n - 1 - k)
      have hblt := hrow.lt
      have hcl := (HR0.out.below hb hbl).cell (i := k) (by omega)
      have hz : l.getD k 0 ≤ 9 := by
        rw [List.getD_eq_getElem?_getD, List.getElem?_eq_getElem (by omega)]
        exact H9.out _ (List.getElem_mem _)
      have HT : Hid (rtext (l.take (k + 1)) = dgt (l.getD k 0) :: rtext (l.take k)) := by
        show _ = _
        rw [List.take_succ_eq_append_getElem (by omega), rtext_snoc, List.getD_eq_getElem?_getD, List.getElem?_eq_getElem (by omega)]; rfl
      have HH := Lib.hid (set_high hlt (rtext (l.take k)))
      generalize l.getD k 0 = d at *
      clear hrow hlen hl
      go_wp2
      go_roundw
      case rel =>
        refine ⟨k + 1, by omega, by go_num, hb.setCell (Nat.le_refl _) _, ?_⟩
        rw [HT.out, ← HH.out]
        exact HR.out.set (by rw [dgt_toNat (by omega)]; omega)
      case measure => simp [intOf]; omega
    · obtain rfl : k = n := by omega
      have hN : Num ⟨(List.replicate (k - k) 0 ++ rtext (l.take k)).toArray⟩ (lev l) := by
        have e : (⟨(List.replicate (k - k) 0 ++ rtext (l.take k)).toArray⟩ : ByteArray).data.toList = rtext l := by
          rw [Nat.sub_self, List.take_of_length_le (by omega)]; rfl
        exact ⟨by rw [e]; exact rtext_digs H9.out, by rw [e]; exact rtext_val H9.out⟩
      have hcv := hrow.conv (n := k) (by simp [rtext_len, hl]) 9 Tryd.underlying9
      have hsz : (⟨(List.replicate (k - k) 0 ++ rtext (l.take k)).toArray⟩ : ByteArray).size ≤ 9223372036854775807 := by
        simp [ByteArray.size, rtext_len]; omega
      clear hrow hl
      generalize List.replicate (k - k) 0 ++ rtext (l.take k) = row at *
      go_wp2_with (go_at_call 22; (with_reducible refine (strip_any _ _ _ hsz hN).mono ?_); rintro e w' ⟨rfl, rfl⟩)
      go_ret
      exact ⟨rfl, hb⟩

/-- k places of a row of digits are done: what they and the carry stand for. -/
def Acc (T k up n : Nat) (l : List Nat) : Prop := l.length = n ∧ (∀ z ∈ l, z ≤ 9) ∧ lev (l.take k) + 10 ^ k * up = T
theorem Acc.start (n up : Nat) : Acc up 0 up n (List.replicate n 0) := ⟨by simp, fun z hz => by rw [(List.mem_replicate.1 hz).2]; omega, by simp [lev]⟩
theorem Acc.step {T k up n d v T' : Nat} {l : List Nat} (h : Acc T k up n l) (hk : k < n) (hv : v = up + d) (hT : T' = T + 10 ^ k * d) : Acc T' (k + 1) (v / 10) n (l.set k (v % 10)) := by
  obtain ⟨h1, h2, h3⟩ := h
  refine ⟨by simpa using h1, fun z hz => ?_, ?_⟩
  · rcases List.mem_or_eq_of_mem_set hz with h | h
    · exact h2 z h
    · omega
  · have hl : k < (l.set k (v % 10)).length := by simpa using (by omega)
    rw [lev_take_succ hl, List.take_set_of_le (by omega), List.getElem_set_self, hT, ← h3, Nat.pow_succ, Nat.mul_assoc, Nat.add_assoc, ← Nat.mul_add, Nat.add_assoc, ← Nat.mul_add]
    congr 2; omega
theorem Acc.done {T up n : Nat} {l : List Nat} (h : Acc T n up n l) (hT : T < 10 ^ n) : up = 0 ∧ lev l = T := by
  obtain ⟨h1, h2, h3⟩ := h
  have h4 := lev_lt h2
  rw [List.take_of_length_le (by omega)] at h3
  rcases Nat.eq_zero_or_pos up with h5 | h5
  · subst h5; exact ⟨rfl, by simpa using h3⟩
  · have := Nat.mul_le_mul_left (10 ^ n) h5; omega
theorem Acc.done1 {T up n : Nat} {l : List Nat} (h : Acc (10 ^ n + T) n up n l) (hup : up ≤ 1) : lev l = T := by
  obtain ⟨h1, h2, h3⟩ := h
  have h4 := lev_lt h2
  rw [List.take_of_length_le (by omega)] at h3
  rw [h1] at h4
  rcases (show up = 0 ∨ up = 1 by omega) with rfl | rfl <;> simp at h3 <;> omega

set_option maxRecDepth 100000 in
set_option maxHeartbeats 2000000 in
theorem sum_any (x y : Nat) (w : World) (hx : (S x).size ≤ 4000) (hy : (S y).size ≤ 4000) : Calls Tryd.prog 26 #[.string (S x), .string (S y)] w fun e w' => e = .returned (.string (S (x + y))) ∧ Below w.heap.size w w' := by
  obtain ⟨n, hmax⟩ : ∃ n : Nat, max ((S x).size : Int) ((S y).size : Int) = (n : Int) := ⟨max (S x).size (S y).size, by omega⟩
  have hxn : (S x).size ≤ n := by omega
  have hyn : (S y).size ≤ n := by omega
  have hn : n ≤ 4000 := by omega
  have hmk := mk_int' n (by omega)
  have hw : ((S x).size < n ∧ decide ((S x).size < n) = true ∧ (S y).size = n) ∨ (¬ n < (S y).size ∧ decide (n < (S y).size) = false ∧ (S x).size = n) := by
    by_cases h : (S x).size < (S y).size
    · exact .inl ⟨by omega, decide_eq_true (by omega), by omega⟩
    · exact .inr ⟨by omega, decide_eq_false (by omega), by omega⟩
  clear hmax
  rcases hw with ⟨h1, h0, h2⟩ | ⟨h1, h0, h2⟩
  all_goals
    go_enter Tryd.func26, Tryd.ntmps26
    go_wp2
    go_loopw [7, 8] (fun c i wr => ∃ (k up : Nat) (l : List Nat), k ≤ n + 1 ∧ up ≤ 1 ∧ i = .int .i64 k ∧ c = .int .i64 (up : Int) ∧ Below w.heap.size w wr ∧ IRow wr w.heap.size l ∧ Acc (sumTo x y k) k up (n + 1) l) (fun _ i _ => n + 1 - (intOf i).toNat)
    case atStart => exact ⟨0, 0, _, by omega, by omega, rfl, rfl, (Below.refl _ _).alloc (Nat.le_refl _) _, IRow.made w (n + 1), by simpa [sumTo, Nat.mod_one] using Acc.start (n + 1) 0⟩
    case round =>
      obtain ⟨k, up, l, hk, c1, rfl, rfl, hb, hrow, hacc⟩ := hrel
      by_cases hlt : k < n + 1
      · have HR := Lib.hid hrow
        have HA := Lib.hid hacc
        have hcell := hrow.cell (i := k) (by rw [hacc.1]; exact hlt)
        have hfro := hrow.frozen k
        have hblt := hrow.lt
        have a9 : x / 10 ^ k % 10 < 10 := Nat.mod_lt _ (by omega)
        have b9 : y / 10 ^ k % 10 < 10 := Nat.mod_lt _ (by omega)
        have HS := Lib.hid (sumTo_succ x y k)
        generalize ha : x / 10 ^ k % 10 = da at *
        generalize hb' : y / 10 ^ k % 10 = db at *
        clear hrow hacc
        have Ha := Lib.hid ha; clear ha
        have Hb := Lib.hid hb'; clear hb'
        go_wp2_with (go_at_call 45; (first | (with_reducible refine (at_is Ha (by omega) (by omega)).mono ?_) | (with_reducible refine (at_is Hb (by omega) (by omega)).mono ?_)); rintro e w' ⟨rfl, rfl⟩)
        go_roundw
        case rel =>
          exact ⟨k + 1, (up + (da + db)) / 10, _, by omega, by omega, by go_num, congrArg (Value.int .i64) (by omega), hb.setCell (Nat.le_refl _) _, HR.out.set (c := (up + (da + db)) % 10) (by omega), HA.out.step hlt rfl HS.out⟩
        case measure => simp [intOf]; omega
      · obtain rfl : k = n + 1 := by omega
        have px := Nat.lt_of_lt_of_le (size_pow (n := x)) (Nat.pow_le_pow_right (show 0 < 10 by omega) hxn)
        have py := Nat.lt_of_lt_of_le (size_pow (n := y)) (Nat.pow_le_pow_right (show 0 < 10 by omega) hyn)
        have e1 : 10 ^ (n + 1) = 10 ^ n * 10 := Nat.pow_succ ..
        have e2 : sumTo x y (n + 1) = x + y := sumTo_all (by omega) (by omega)
        have hd := Acc.done hacc (by omega)
        have HD := Lib.hid (hd.2.trans e2)
        have HT := Lib.hid (text_any l w.heap.size (n + 1) wr hrow hacc.1 (by omega) hacc.2.1)
        clear e1 e2 px py hd hacc hrow
        go_wp2_with (go_at_call 46; (with_reducible refine HT.out.mono ?_); rintro e w2 ⟨rfl, hb2⟩)
        go_ret
        exact ⟨ret_str (by rw [HD.out]), hb.trans (hb2.mono hb.size)⟩
end Go.Proofs.YtjidjcnjgjmeoaaDoor.Dig
