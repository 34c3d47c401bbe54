/-
  Contracts of package digits: quotients.
-/
import Derived.Test.YtjidjcnjgjmeoaaDoorDigG
import Derived.Lib.SmallJoins
namespace Go.Proofs.YtjidjcnjgjmeoaaDoor.Dig
open Go.RowKit
set_option linter.unusedVariables false
set_option linter.unusedSimpArgs false

theorem S_nil {n : Nat} (h : n = 0) : (S n).size = 0 := by subst h; rfl
theorem S_pos {n : Nat} (h : 0 < n) : ¬ (S n).size = 0 := by
  rw [S_size]; intro e
  have := num_nil.1 (List.eq_nil_of_length_eq_zero e); omega
theorem S_byte {x i : Nat} (h : i < (S x).size) : 48 ≤ ((S x)[i]).toNat ∧ ((S x)[i]).toNat ≤ 57 := by
  rw [S_get h]; exact isd_iff.1 (digs_get (num_digs x) _)
theorem pre_zero {x la : Nat} (h : (S x).size = la) : x / 10 ^ (la - 0) = 0 := by rw [Nat.sub_zero, ← h]; exact Nat.div_eq_of_lt size_pow
theorem pre_take {x la i : Nat} (h : (S x).size = la) (hi : i ≤ la) : val ((num x).take i) = x / 10 ^ (la - i) := by
  have hl : (num x).length = la := by rw [← S_size]; exact h
  rw [val_take (num_digs x) (by omega), val_num, hl]
theorem pre_succ {x la i : Nat} (h : (S x).size = la) (hi : i < (S x).size) : x / 10 ^ (la - (i + 1)) = 10 * (x / 10 ^ (la - i)) + (((S x)[i]).toNat - 48) := by
  rw [← pre_take h (by omega), ← pre_take h (by omega), val_take_succ (by rw [← S_size]; exact hi), Nat.mul_comm]; rfl
/-- One more digit behind a numeral. -/
theorem Num_snoc {x r i : Nat} (hi : i < (S x).size) : Num (S r ++ (S x).extract i (i + 1)) (10 * r + (((S x)[i]).toNat - 48)) := by
  have e : (S r ++ (S x).extract i (i + 1)).data.toList = num r ++ [(S x)[i]] := by
    rw [Joins.data_append, Lib.extract_data, S_list]
    congr 1
    rw [show i + 1 - i = 1 by omega, List.drop_eq_getElem_cons (by rw [size_list]; exact hi)]
    rfl
  have hb := S_byte hi
  refine ⟨?_, ?_⟩
  · rw [e, digs_snoc, num_digs, Bool.true_and]; exact isd_iff.2 hb
  · rw [e, val_snoc, val_num, Nat.mul_comm]
theorem set_low {la i q k : Nat} (hi : i < la) (hk : k < 10) : (dig q i ++ List.replicate (la - i) 0).set i (dgt k) = dig (10 * q + k) (i + 1) ++ List.replicate (la - (i + 1)) 0 := by
  obtain ⟨m, hm⟩ : ∃ m, la - i = m + 1 := ⟨la - i - 1, by omega⟩
  rw [hm, show la - (i + 1) = m by omega, List.set_append_right _ _ (by rw [dig_len]; omega), dig_len, Nat.sub_self, List.replicate_succ, List.set_cons_zero, dig_snoc hk, List.append_assoc]
  rfl
theorem rest_size {r y m : Nat} (hy : (S y).size ≤ m) (hr : r < 10 * y) : (S r).size ≤ m + 1 := by
  have h2 := Nat.lt_of_lt_of_le (size_pow (n := y)) (Nat.pow_le_pow_right (show 0 < 10 by omega) hy)
  rw [S_size, num_len, Nat.pow_succ]; omega
theorem cmp_ge {r y k : Nat} (hy : 0 < y) (hk : k < r / y) : 0 ≤ cmpN (r - k * y) y := by
  have := (take_iff hy (Nat.le_of_lt hk)).2 hk
  unfold cmpN; split
  · omega
  · split <;> omega
theorem cmp_less {r y k : Nat} (hy : 0 < y) (hk : k = r / y) : cmpN (r - k * y) y = -1 := by
  have := (take_iff (r := r) (k := k) hy (by omega))
  exact cmpN_lt (by omega)

set_option maxRecDepth 100000 in
set_option maxHeartbeats 4000000 in
theorem quo_any (x y : Nat) (w : World) (hx : (S x).size ≤ 600) (hy : (S y).size ≤ 600) (hy0 : 0 < y) : Calls Tryd.prog 18 #[.string (S x), .string (S y)] w fun e w' => e = .returned (.tuple #[.string (S (x / y)), .string (S (x % y)), .int .i64 0]) ∧ Below w.heap.size w w' := by
  obtain ⟨la, hla⟩ : ∃ n : Nat, (S x).size = n := ⟨_, rfl⟩
  have ba : la ≤ 600 := by omega
  have hmk := mk_u8 la (by omega)
  have ey := tl_ne (S_pos hy0)
  have ey' := tl_ne' (S_pos hy0)
  have P0 := Lib.hid (pre_zero hla)
  have LA := Lib.hid hla
  go_enter Tryd.func18, Tryd.ntmps18
  go_wp2_with (go_at_call 36; (with_reducible refine (valid_S (by omega)).mono ?_); rintro e w' ⟨rfl, rfl⟩)
  go_loopw [8, 26] (fun r i wr => ∃ i' : Nat, i' ≤ la ∧ i = .int .i64 i' ∧ r = .string (S (x / 10 ^ (la - i') % y)) ∧ Below w.heap.size w wr ∧ BRow wr w.heap.size (dig (x / 10 ^ (la - i') / y) i' ++ List.replicate (la - i') 0)) (fun _ i _ => la - (intOf i).toNat)
  case atStart => exact ⟨0, by omega, rfl, by rw [P0.out, Nat.zero_mod]; rfl, (Below.refl _ _).alloc (Nat.le_refl _) _, by simpa [dig] using BRow.made w la⟩
  case round =>
    obtain ⟨i, hi, rfl, rfl, hb, hrow⟩ := hrel
    by_cases hlt : i < la
    · have hix : i < (S x).size := by omega
      have hN := Num_snoc (x := x) (i := i) (r := x / 10 ^ (la - i) % y) hix
      have HS := Lib.hid (pre_succ hla hix)
      have hbd := S_byte hix
      have hsz : (S (x / 10 ^ (la - i) % y)).size ≤ 600 := S_short hy (Nat.le_of_lt (Nat.mod_lt _ hy0))
      have hq1 := quo_step (x := x / 10 ^ (la - i)) (c := ((S x)[i]).toNat - 48) hy0
      have hq2 := quo_lt (x := x / 10 ^ (la - i)) (c := ((S x)[i]).toNat - 48) hy0 (by omega)
      have hr9 : x / 10 ^ (la - i) % y < y := Nat.mod_lt _ hy0
      have HQ := Lib.hid hq1
      have HR := Lib.hid hrow
      have hlen : (dig (x / 10 ^ (la - i) / y) i ++ List.replicate (la - i) 0).length = la := by simp [dig_len]; omega
      have HL := Lib.hid hlen
      generalize x / 10 ^ (la - i) / y = q at *
      generalize x / 10 ^ (la - i) % y = r at *
      obtain ⟨d, hd⟩ : ∃ d, ((S x)[i]).toNat - 48 = d := ⟨_, rfl⟩
      rw [hd] at hN hq2 HQ HS
      have hr' : 10 * r + d < 10 * y := by omega
      have hsr := rest_size hy hr'
      generalize hrr : 10 * r + d = r' at *
      have HRR := Lib.hid hrr
      have HD := Lib.hid hd
      clear hrow hlen hq1 hd hrr
      go_wp2_with (go_at_call 39; (with_reducible refine (trimLeft_num _ _ _ hN).mono ?_); rintro e w' ⟨rfl, rfl⟩)
      go_loopw [8, 10] (fun r c wq => ∃ k : Nat, k ≤ r' / y ∧ r = .string (S (r' - k * y)) ∧ c = .int .u8 ((48 + k : Nat) : Int) ∧ Below w.heap.size w wq ∧ BRow wq w.heap.size (dig q i ++ List.replicate (la - i) 0)) (fun _ c _ => 60 - (intOf c).toNat)
      case atStart => exact ⟨0, Nat.zero_le _, by simp, rfl, hb, HR.out⟩
      case round =>
        clear hb HR
        obtain ⟨k, hk, rfl, rfl, hb, hrow⟩ := hrel
        have hs1 : (S (r' - k * y)).size ≤ 601 := S_short hsr (Nat.sub_le _ _)
        have HR := Lib.hid hrow
        by_cases hlt2 : k < r' / y
        · have hc := Lib.hid (cmp_ge hy0 hlt2)
          have hle : y ≤ r' - k * y := (take_iff hy0 hk).2 hlt2
          have HE : Hid (r' - k * y - y = r' - (k + 1) * y) := Lib.hid (by rw [Nat.add_mul]; omega)
          clear hrow
          generalize r' - k * y = rr at *
          go_wp2_with (first | (go_at_call 33; (with_reducible refine (cmp_any _ _ _ (by omega) (by omega)).mono ?_); rintro e w' ⟨rfl, rfl⟩; have HC' := hc.out) | (go_at_call 40; (with_reducible refine (minus_any _ _ _ (by omega) (by omega) hle).mono ?_); rintro e w2 ⟨rfl, hb2⟩))
          go_roundw
          case rel => exact ⟨k + 1, by omega, by rw [HE.out], congrArg (Value.int .u8) (by omega), hb.trans (hb2.mono hb.size), HR.out.below hb2 (HR.out.lt)⟩
          case measure => simp [intOf]; omega
        · have e : k = r' / y := by omega
          have hc := Lib.hid (cmp_less hy0 e)
          have HE : Hid (r' - k * y = r' % y) := Lib.hid (by rw [e]; exact take_all r' y)
          have hk9 : k < 10 := by omega
          have hcell := hrow.cell (i := i) (by rw [HL.out]; exact hlt)
          have hfro := hrow.frozen i
          have HH := Lib.hid (set_low (q := q) hlt hk9)
          have HK := Lib.hid e
          clear hrow e
          generalize hrr : r' - k * y = rr at *
          have HRR2 := Lib.hid hrr
          clear hrr
          go_wp2_with (go_at_call 33; (with_reducible refine (cmp_any _ _ _ (by omega) (by omega)).mono ?_); rintro e w' ⟨rfl, rfl⟩; rw [hc.out])
          go_roundw
          case rel =>
            obtain ⟨g1, g2⟩ := HQ.out
            refine ⟨i + 1, by omega, by go_num, ?_, hb.setCell (Nat.le_refl _) _, ?_⟩
            · rw [HS.out, g2, ← HE.out]
            · rw [HS.out, g1, ← HK.out, ← HH.out]
              exact HR.out.set (by rw [dgt_toNat (by omega)]; omega)
          case measure => simp [intOf]; omega
    · obtain rfl : i = la := by omega
      have e0 : x / 10 ^ (i - i) = x := by rw [Nat.sub_self, Nat.pow_zero, Nat.div_one]
      rw [e0] at hrow
      have hN : Num ⟨(dig (x / y) i ++ List.replicate (i - i) 0).toArray⟩ (x / y) := by
        refine Num_row (k := i) (Nat.lt_of_le_of_lt (Nat.div_le_self _ _) (by rw [← hla]; exact size_pow)) ?_
        rw [Nat.sub_self]
        show dig _ _ ++ [] = _
        rw [List.append_nil]
      have hcv := hrow.conv (n := i) (by simp [dig_len]) 9 Tryd.underlying9
      have E0 := Lib.hid e0
      clear hrow e0
      generalize dig (x / y) i ++ List.replicate (i - i) 0 = row at *
      go_wp2_with (go_at_call 39; (with_reducible refine (trimLeft_num _ _ _ hN).mono ?_); rintro e w' ⟨rfl, rfl⟩)
      go_ret3
      exact ⟨by first | rfl | (rw [E0.out]; rfl) | (simp only [Nat.sub_self, Nat.pow_zero, Nat.div_one]; rfl), hb⟩
end Go.Proofs.YtjidjcnjgjmeoaaDoor.Dig
