/-
  Contracts of the reference of digits: quotients.
-/
import Derived.Test.YtjidjcnjgjmeoaaDoorDigH
namespace Go.Proofs.YtjidjcnjgjmeoaaDoor.Dig
open Go.RowKit
set_option linter.unusedVariables false
set_option linter.unusedSimpArgs false

theorem cat_size (r : Nat) (s : ByteArray) (i : Nat) : (S r ++ s.extract i (i + 1)).size ≤ (S r).size + 1 := by
  rw [ByteArray.size_append]
  have : (s.extract i (i + 1)).size ≤ 1 := by
    rw [← size_list, Lib.extract_data, List.length_take]; omega
  omega
set_option maxRecDepth 100000 in
set_option maxHeartbeats 4000000 in
theorem rquo_any (x y : Nat) (w : World) (hx : (S x).size ≤ 4000) (hy : (S y).size ≤ 4000) (hy0 : 0 < y) : Calls Tryd.prog 24 #[.string (S x), .string (S y)] w fun e w' => e = .returned (.tuple #[.string (S (x / y)), .string (S (x % y)), .int .i64 0]) ∧ Below w.heap.size w w' := by
  obtain ⟨la, hla⟩ : ∃ n : Nat, (S x).size = n := ⟨_, rfl⟩
  have ba : la ≤ 4000 := by omega
  have hmk := mk_u8 la (by omega)
  have ey := tl_ne (S_pos hy0)
  have ey' := tl_ne' (S_pos hy0)
  have P0 := Lib.hid (pre_zero hla)
  have LA := Lib.hid hla
  go_enter Tryd.func24, Tryd.ntmps24
  go_wp2
  go_loopw [8, 9] (fun r i wr => ∃ i' : Nat, i' ≤ la ∧ i = .int .i64 i' ∧ r = .string (S (x / 10 ^ (la - i') % y)) ∧ Below w.heap.size w wr ∧ BRow wr w.heap.size (dig (x / 10 ^ (la - i') / y) i' ++ List.replicate (la - i') 0)) (fun _ i _ => la - (intOf i).toNat)
  case atStart => exact ⟨0, by omega, rfl, by rw [P0.out, Nat.zero_mod]; rfl, (Below.refl _ _).alloc (Nat.le_refl _) _, by simpa [dig] using BRow.made w la⟩
  case round =>
    obtain ⟨i, hi, rfl, rfl, hb, hrow⟩ := hrel
    by_cases hlt : i < la
    · have hix : i < (S x).size := by omega
      have hN := Num_snoc (x := x) (i := i) (r := x / 10 ^ (la - i) % y) hix
      have HS := Lib.hid (pre_succ hla hix)
      have hbd := S_byte hix
      have hsz : (S (x / 10 ^ (la - i) % y)).size ≤ 4000 := S_short hy (Nat.le_of_lt (Nat.mod_lt _ hy0))
      have hq1 := quo_step (x := x / 10 ^ (la - i)) (c := ((S x)[i]).toNat - 48) hy0
      have hq2 := quo_lt (x := x / 10 ^ (la - i)) (c := ((S x)[i]).toNat - 48) hy0 (by omega)
      have hcs := cat_size (x / 10 ^ (la - i) % y) (S x) i
      have hr9 : x / 10 ^ (la - i) % y < y := Nat.mod_lt _ hy0
      have HQ := Lib.hid hq1
      have HR := Lib.hid hrow
      have hlen : (dig (x / 10 ^ (la - i) / y) i ++ List.replicate (la - i) 0).length = la := by simp [dig_len]; omega
      have HL := Lib.hid hlen
      generalize x / 10 ^ (la - i) / y = q at *
      generalize x / 10 ^ (la - i) % y = r at *
      obtain ⟨d, hd⟩ : ∃ d, ((S x)[i]).toNat - 48 = d := ⟨_, rfl⟩
      rw [hd] at hN hq2 HQ HS
      have hr' : 10 * r + d < 10 * y := by omega
      have hsr := rest_size hy hr'
      generalize hrr : 10 * r + d = r' at *
      have HRR := Lib.hid hrr
      have HD := Lib.hid hd
      clear hrow hlen hq1 hd hrr
      go_wp2_with (go_at_call 22; (with_reducible refine (strip_any _ _ _ (by omega) hN).mono ?_); rintro e w' ⟨rfl, rfl⟩)
      go_loopw [8, 10] (fun r c wq => ∃ k : Nat, k ≤ r' / y ∧ r = .string (S (r' - k * y)) ∧ c = .int .i64 (k : Int) ∧ Below w.heap.size w wq ∧ BRow wq w.heap.size (dig q i ++ List.replicate (la - i) 0)) (fun _ c _ => 20 - (intOf c).toNat)
      case atStart => exact ⟨0, Nat.zero_le _, by simp, rfl, hb, HR.out⟩
      case round =>
        clear hb HR
        obtain ⟨k, hk, rfl, rfl, hb, hrow⟩ := hrel
        have hs1 : (S (r' - k * y)).size ≤ 4001 := S_short hsr (Nat.sub_le _ _)
        have HR := Lib.hid hrow
        by_cases hlt2 : k < r' / y
        · have hc := Lib.hid (cmp_ge hy0 hlt2)
          have hle : y ≤ r' - k * y := (take_iff hy0 hk).2 hlt2
          have HE : Hid (r' - k * y - y = r' - (k + 1) * y) := Lib.hid (by rw [Nat.add_mul]; omega)
          clear hrow
          generalize r' - k * y = rr at *
          go_wp2_with (first | (go_at_call 43; (with_reducible refine (rcmp_any _ _ _ (by omega) (by omega)).mono ?_); rintro e w' ⟨rfl, rfl⟩; have HC' := hc.out) | (go_at_call 44; (with_reducible refine (less_any _ _ _ (by omega) (by omega) hle).mono ?_); rintro e w2 ⟨rfl, hb2⟩))
          go_roundw
          case rel => exact ⟨k + 1, by omega, by rw [HE.out], by go_num, hb.trans (hb2.mono hb.size), HR.out.below hb2 (HR.out.lt)⟩
          case measure => simp [intOf]; omega
        · have e : k = r' / y := by omega
          have hc := Lib.hid (cmp_less hy0 e)
          have HE : Hid (r' - k * y = r' % y) := Lib.hid (by rw [e]; exact take_all r' y)
          have hk9 : k < 10 := by omega
          have hcell := hrow.cell (i := i) (by rw [HL.out]; exact hlt)
          have hfro := hrow.frozen i
          have HH := Lib.hid (set_low (q := q) hlt hk9)
          have HK := Lib.hid e
          clear hrow e
          generalize hrr : r' - k * y = rr at *
          have HRR2 := Lib.hid hrr
          clear hrr
          go_wp2_with (go_at_call 43; (with_reducible refine (rcmp_any _ _ _ (by omega) (by omega)).mono ?_); rintro e w' ⟨rfl, rfl⟩; rw [hc.out])
          go_roundw
          case rel =>
            obtain ⟨g1, g2⟩ := HQ.out
            refine ⟨i + 1, by omega, by go_num, ?_, hb.setCell (Nat.le_refl _) _, ?_⟩
            · rw [HS.out, g2, ← HE.out]
            · rw [HS.out, g1, ← HK.out, ← HH.out]
              exact HR.out.set (by rw [dgt_toNat (by omega)]; omega)
          case measure => simp [intOf]; omega
    · obtain rfl : i = la := by omega
      have e0 : x / 10 ^ (i - i) = x := by rw [Nat.sub_self, Nat.pow_zero, Nat.div_one]
      rw [e0] at hrow
      have hN : Num ⟨(dig (x / y) i ++ List.replicate (i - i) 0).toArray⟩ (x / y) := by
        refine Num_row (k := i) (Nat.lt_of_le_of_lt (Nat.div_le_self _ _) (by rw [← hla]; exact size_pow)) ?_
        rw [Nat.sub_self]
        show dig _ _ ++ [] = _
        rw [List.append_nil]
      have hcv := hrow.conv (n := i) (by simp [dig_len]) 9 Tryd.underlying9
      have E0 := Lib.hid e0
      have hrl : (⟨(dig (x / y) i ++ List.replicate (i - i) 0).toArray⟩ : ByteArray).size ≤ 4000 := by simp [ByteArray.size, dig_len]; omega
      clear hrow e0
      generalize dig (x / y) i ++ List.replicate (i - i) 0 = row at *
      go_wp2_with (go_at_call 22; (with_reducible refine (strip_any _ _ _ (by omega) hN).mono ?_); rintro e w' ⟨rfl, rfl⟩)
      go_ret3
      exact ⟨by first | rfl | (rw [E0.out]; rfl) | (simp only [Nat.sub_self, Nat.pow_zero, Nat.div_one]; rfl), hb⟩
end Go.Proofs.YtjidjcnjgjmeoaaDoor.Dig
