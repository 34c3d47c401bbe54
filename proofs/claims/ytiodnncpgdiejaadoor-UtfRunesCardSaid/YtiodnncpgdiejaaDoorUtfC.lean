/-
  Contracts of the reference of utf: the character at an offset.
-/
import Derived.Test.YtiodnncpgdiejaaDoorUtfB
namespace Go.Proofs.YtiodnncpgdiejaaDoor.Utf
open Go.RowKit
set_option linter.unusedVariables false
set_option linter.unusedSimpArgs false

theorem more_lt (l : List UInt8) (r k : Nat) : more l r k < (r + 1) * 64 ^ k := by
  induction k with
  | zero => simp [more]
  | succ k ih =>
    have h1 : (r + 1) * 64 ^ (k + 1) = (r + 1) * 64 ^ k * 64 := by rw [Nat.pow_succ, Nat.mul_assoc]
    have h2 : nth l (k + 1) % 64 < 64 := Nat.mod_lt _ (by omega)
    simp only [more]; omega
theorem nth_drop {s : ByteArray} {a k : Nat} (h : a + k < s.size) : (s[a + k]'h).toNat = nth (s.data.toList.drop a) k := by
  unfold nth
  rw [List.getD_eq_getElem?_getD, List.getElem?_drop, List.getElem?_eq_getElem (by rw [size_list]; exact h)]
  rfl
theorem ext_take (s : ByteArray) (a k : Nat) : (s.extract a (a + k)).data.toList = (s.data.toList.drop a).take k := by
  rw [Lib.extract_data, Nat.add_sub_cancel_left]
theorem rchAt_f {s : ByteArray} {a : Nat} {w : World} (K : Nat) (hK : (lead (nth (s.data.toList.drop a) 0)).1 = K) (h : a < s.size) (hl : s.size - a < K) : chAt s (a : Int) = (0, 0) := by
  rw [chAt_in h, hd_ref _ hK rfl, if_neg]
  rintro ⟨h1, _⟩
  rw [List.length_drop, size_list] at h1; omega
set_option maxRecDepth 100000 in
set_option maxHeartbeats 4000000 in
theorem rdecode_4 (s : ByteArray) (a : Nat) (w : World) (hs : s.size ≤ 4611686018427387904) (ha : a < s.size) (b : Nat) (hb : (s[a]).toNat = b) (h1 : 240 ≤ b) : Calls Tryd.prog 25 #[.string s, .int .i64 a] w fun e w' => e = .returned (.tuple #[.int .i64 (chAt s a).1, .int .i64 (chAt s a).2]) ∧ Below w.heap.size w w' := by
  have hn : nth (s.data.toList.drop a) 0 = b := by rw [← nth_drop (show a + 0 < s.size by omega)]; exact hb
  have hle : lead b = (4, b % 8) := by unfold lead; rw [if_pos h1]
  have hK : (lead (nth (s.data.toList.drop a) 0)).1 = 4 := by rw [hn, hle]
  have b256 : b < 256 := by rw [← hb]; exact (s[a]).toNat_lt
  by_cases hlen : s.size - a < 4
  · have HC := Lib.hid (rchAt_f (w := w) 4 hK ha hlen)
    have hb0 : bits .and .i64 (b : Int) 7 = (b : Int) % 8 := band 3 (by decide) (by omega) (by omega)
    clear hn hle hK
    have h1i : 240 ≤ (b : Int) := by omega
    clear h1
    go_enter Tryd.func25, Tryd.ntmps25
    go_wp2
    go_ret2
    exact ⟨by rw [HC.out]; rfl, Below.refl _ _⟩
  have HR := Lib.hid (hd_ref (s.data.toList.drop a) hK (r := more (s.data.toList.drop a) (b % 8) 3) (by rw [hn, hle]))
  have HCA := Lib.hid (chAt_in ha)
  have hmt := more_lt (s.data.toList.drop a) (b % 8) 3
  have hm0 : Hid (more (s.data.toList.drop a) (b % 8) 0 = b % 8) := rfl
  have hgen : ∀ k, more (s.data.toList.drop a) (b % 8) (k + 1) = more (s.data.toList.drop a) (b % 8) k * 64 + nth (s.data.toList.drop a) (k + 1) % 64 := fun _ => rfl
  have hbd : ∀ k, k ≤ 3 → more (s.data.toList.drop a) (b % 8) k < 256 * 64 ^ 3 := fun k hk => Nat.lt_of_lt_of_le (more_lt _ _ _) (Nat.mul_le_mul (by omega) (Nat.pow_le_pow_right (by omega) hk))
  have HG := Lib.hid hgen
  have HB := Lib.hid hbd
  have hb0 : bits .and .i64 (b : Int) 7 = (b : Int) % 8 := band 3 (by decide) (by omega) (by omega)
  clear hn hle hK hgen hbd hmt
  have h1i : 240 ≤ (b : Int) := by omega
  clear h1
  generalize hfun : more (s.data.toList.drop a) (b % 8) = mf at *
  have HF := Lib.hid hfun
  have d1 : decide ((a : Int) < 0) = false := decide_eq_false (by omega)
  have d2 : decide (s.size ≤ a) = false := decide_eq_false (by omega)
  have d3 : decide ((s.size : Int) - (a : Int) < 4) = false := decide_eq_false (by omega)
  have d4 : ¬ (s.size : Int) - (a : Int) < 4 := by omega
  clear hfun
  go_enter Tryd.func25, Tryd.ntmps25
  go_wp2
  go_loop [8, 9] (fun r i => ∃ k : Nat, 1 ≤ k ∧ k ≤ 4 ∧ i = .int .i64 k ∧ r = .int .i64 (mf (k - 1) : Nat)) (fun _ i => 10 - (intOf i).toNat)
  case atStart => exact ⟨1, by omega, by omega, rfl, by rw [show 1 - 1 = 0 from rfl, hm0.out]; try rfl⟩
  case round =>
    obtain ⟨k, hk1, hk, rfl, rfl⟩ := hrel
    by_cases hlt : k < 4
    · have hin : a + k < s.size := by omega
      have hby := nth_drop hin
      have hx : nth (s.data.toList.drop a) k < 256 := nth_lt _ _
      have HX : Hid (nth (s.data.toList.drop a) k = nth (s.data.toList.drop a) k) := rfl
      have hst : mf k = mf (k - 1) * 64 + nth (s.data.toList.drop a) k % 64 := by
        have := HG.out (k - 1)
        rwa [show k - 1 + 1 = k by omega] at this
      have hv := HB.out (k - 1) (by omega)
      have HS := Lib.hid hst
      obtain ⟨x, hxx⟩ : ∃ x, nth (s.data.toList.drop a) k = x := ⟨_, rfl⟩
      rw [hxx] at hby hx HS
      generalize mf (k - 1) = v at *
      have c1 : bits .and .i64 (x : Int) 63 = (x : Int) % 64 := band 6 (by decide) (by omega) (by omega)
      have c2 : bits .or .i64 ((v : Int) * 64) ((x : Int) % 64) = (v : Int) * 64 + (x : Int) % 64 := bor 6 (by omega) (by omega) (by omega) (by omega) (by omega) (by omega)
      clear hst hxx
      go_wp2
      go_round
      case rel => exact ⟨k + 1, by omega, by omega, by go_num, congrArg (Value.int .i64) (by rw [show k + 1 - 1 = k by omega, HS.out]; omega)⟩
      case measure => simp [intOf]; omega
    · obtain rfl : k = 4 := by omega
      have hv := HB.out (4 - 1) (by omega)
      have HR2 := HR.out
      have HV : Hid (mf 3 = mf (4 - 1)) := rfl
      rw [HV.out] at HR2
      generalize mf (4 - 1) = v at *
      have e1 : (s.extract a (a + 4)).data.toList = (s.data.toList.drop a).take 4 := ext_take s a 4
      have e2 : (s.data.toList.drop a).length = s.size - a := by rw [List.length_drop]; rfl
      by_cases c1 : chr v = true
      · have hC : isC (v : Int) = true := by unfold isC; rw [Int.toNat_natCast, c1]; simp
        have HE := Lib.hid (fun w => rencode_t (v : Int) w hC)
        by_cases c2 : enc v = (s.data.toList.drop a).take 4
        · have hq : ((encS v).toList == (s.extract a (a + 4)).toList) = true := by
            rw [ByteArray.toList_eq, ByteArray.toList_eq, e1, ← c2]; exact beq_self_eq_true _
          rw [if_pos ⟨by omega, c1, c2⟩] at HR2
          have HQ := Lib.hid HR2
          rw [Int.toNat_natCast] at HE
          clear HR2 e1 e2 c1 c2 hC
          go_wp2_with (go_at_call 36; (with_reducible refine (HE.out _).mono ?_); rintro e w1 ⟨rfl, hb1⟩)
          go_ret2
          exact ⟨by rw [HCA.out, HQ.out]; rfl, hb1⟩
        · have hq : ((encS v).toList == (s.extract a (a + 4)).toList) = false := by
            rw [ByteArray.toList_eq, ByteArray.toList_eq, e1, beq_eq_false_iff_ne]; exact c2
          rw [if_neg (by rintro ⟨_, _, h⟩; exact c2 h)] at HR2
          have HQ := Lib.hid HR2
          rw [Int.toNat_natCast] at HE
          clear HR2 e1 e2 c1 c2 hC
          go_wp2_with (go_at_call 36; (with_reducible refine (HE.out _).mono ?_); rintro e w1 ⟨rfl, hb1⟩)
          go_ret2
          exact ⟨by rw [HCA.out, HQ.out]; rfl, hb1⟩
      · have hC : isC (v : Int) = false := by unfold isC; rw [Int.toNat_natCast]; simp [c1]
        have HE := Lib.hid (fun w => rencode_f (v : Int) w hC)
        rw [if_neg (by rintro ⟨_, h, _⟩; exact c1 h)] at HR2
        have HQ := Lib.hid HR2
        clear HR2 e1 e2 c1 hC
        go_wp2_with (go_at_call 36; (with_reducible refine (HE.out _).mono ?_); rintro e w1 ⟨rfl, rfl⟩)
        go_ret2
        exact ⟨by rw [HCA.out, HQ.out]; rfl, Below.refl _ _⟩
set_option maxRecDepth 100000 in
set_option maxHeartbeats 4000000 in
theorem rdecode_3 (s : ByteArray) (a : Nat) (w : World) (hs : s.size ≤ 4611686018427387904) (ha : a < s.size) (b : Nat) (hb : (s[a]).toNat = b) (h1 : ¬ 240 ≤ b) (h2 : 224 ≤ b) : Calls Tryd.prog 25 #[.string s, .int .i64 a] w fun e w' => e = .returned (.tuple #[.int .i64 (chAt s a).1, .int .i64 (chAt s a).2]) ∧ Below w.heap.size w w' := by
  have hn : nth (s.data.toList.drop a) 0 = b := by rw [← nth_drop (show a + 0 < s.size by omega)]; exact hb
  have hle : lead b = (3, b % 16) := by unfold lead; rw [if_neg h1, if_pos h2]
  have hK : (lead (nth (s.data.toList.drop a) 0)).1 = 3 := by rw [hn, hle]
  have b256 : b < 256 := by rw [← hb]; exact (s[a]).toNat_lt
  by_cases hlen : s.size - a < 3
  · have HC := Lib.hid (rchAt_f (w := w) 3 hK ha hlen)
    have hb0 : bits .and .i64 (b : Int) 15 = (b : Int) % 16 := band 4 (by decide) (by omega) (by omega)
    clear hn hle hK
    have h1i : ¬ 240 ≤ (b : Int) := by omega
    have h2i : 224 ≤ (b : Int) := by omega
    clear h1 h2
    go_enter Tryd.func25, Tryd.ntmps25
    go_wp2
    go_ret2
    exact ⟨by rw [HC.out]; rfl, Below.refl _ _⟩
  have HR := Lib.hid (hd_ref (s.data.toList.drop a) hK (r := more (s.data.toList.drop a) (b % 16) 2) (by rw [hn, hle]))
  have HCA := Lib.hid (chAt_in ha)
  have hmt := more_lt (s.data.toList.drop a) (b % 16) 2
  have hm0 : Hid (more (s.data.toList.drop a) (b % 16) 0 = b % 16) := rfl
  have hgen : ∀ k, more (s.data.toList.drop a) (b % 16) (k + 1) = more (s.data.toList.drop a) (b % 16) k * 64 + nth (s.data.toList.drop a) (k + 1) % 64 := fun _ => rfl
  have hbd : ∀ k, k ≤ 3 → more (s.data.toList.drop a) (b % 16) k < 256 * 64 ^ 3 := fun k hk => Nat.lt_of_lt_of_le (more_lt _ _ _) (Nat.mul_le_mul (by omega) (Nat.pow_le_pow_right (by omega) hk))
  have HG := Lib.hid hgen
  have HB := Lib.hid hbd
  have hb0 : bits .and .i64 (b : Int) 15 = (b : Int) % 16 := band 4 (by decide) (by omega) (by omega)
  clear hn hle hK hgen hbd hmt
  have h1i : ¬ 240 ≤ (b : Int) := by omega
  have h2i : 224 ≤ (b : Int) := by omega
  clear h1 h2
  generalize hfun : more (s.data.toList.drop a) (b % 16) = mf at *
  have HF := Lib.hid hfun
  have d1 : decide ((a : Int) < 0) = false := decide_eq_false (by omega)
  have d2 : decide (s.size ≤ a) = false := decide_eq_false (by omega)
  have d3 : decide ((s.size : Int) - (a : Int) < 3) = false := decide_eq_false (by omega)
  have d4 : ¬ (s.size : Int) - (a : Int) < 3 := by omega
  clear hfun
  go_enter Tryd.func25, Tryd.ntmps25
  go_wp2
  go_loop [8, 9] (fun r i => ∃ k : Nat, 1 ≤ k ∧ k ≤ 3 ∧ i = .int .i64 k ∧ r = .int .i64 (mf (k - 1) : Nat)) (fun _ i => 10 - (intOf i).toNat)
  case atStart => exact ⟨1, by omega, by omega, rfl, by rw [show 1 - 1 = 0 from rfl, hm0.out]; try rfl⟩
  case round =>
    obtain ⟨k, hk1, hk, rfl, rfl⟩ := hrel
    by_cases hlt : k < 3
    · have hin : a + k < s.size := by omega
      have hby := nth_drop hin
      have hx : nth (s.data.toList.drop a) k < 256 := nth_lt _ _
      have HX : Hid (nth (s.data.toList.drop a) k = nth (s.data.toList.drop a) k) := rfl
      have hst : mf k = mf (k - 1) * 64 + nth (s.data.toList.drop a) k % 64 := by
        have := HG.out (k - 1)
        rwa [show k - 1 + 1 = k by omega] at this
      have hv := HB.out (k - 1) (by omega)
      have HS := Lib.hid hst
      obtain ⟨x, hxx⟩ : ∃ x, nth (s.data.toList.drop a) k = x := ⟨_, rfl⟩
      rw [hxx] at hby hx HS
      generalize mf (k - 1) = v at *
      have c1 : bits .and .i64 (x : Int) 63 = (x : Int) % 64 := band 6 (by decide) (by omega) (by omega)
      have c2 : bits .or .i64 ((v : Int) * 64) ((x : Int) % 64) = (v : Int) * 64 + (x : Int) % 64 := bor 6 (by omega) (by omega) (by omega) (by omega) (by omega) (by omega)
      clear hst hxx
      go_wp2
      go_round
      case rel => exact ⟨k + 1, by omega, by omega, by go_num, congrArg (Value.int .i64) (by rw [show k + 1 - 1 = k by omega, HS.out]; omega)⟩
      case measure => simp [intOf]; omega
    · obtain rfl : k = 3 := by omega
      have hv := HB.out (3 - 1) (by omega)
      have HR2 := HR.out
      have HV : Hid (mf 2 = mf (3 - 1)) := rfl
      rw [HV.out] at HR2
      generalize mf (3 - 1) = v at *
      have e1 : (s.extract a (a + 3)).data.toList = (s.data.toList.drop a).take 3 := ext_take s a 3
      have e2 : (s.data.toList.drop a).length = s.size - a := by rw [List.length_drop]; rfl
      by_cases c1 : chr v = true
      · have hC : isC (v : Int) = true := by unfold isC; rw [Int.toNat_natCast, c1]; simp
        have HE := Lib.hid (fun w => rencode_t (v : Int) w hC)
        by_cases c2 : enc v = (s.data.toList.drop a).take 3
        · have hq : ((encS v).toList == (s.extract a (a + 3)).toList) = true := by
            rw [ByteArray.toList_eq, ByteArray.toList_eq, e1, ← c2]; exact beq_self_eq_true _
          rw [if_pos ⟨by omega, c1, c2⟩] at HR2
          have HQ := Lib.hid HR2
          rw [Int.toNat_natCast] at HE
          clear HR2 e1 e2 c1 c2 hC
          go_wp2_with (go_at_call 36; (with_reducible refine (HE.out _).mono ?_); rintro e w1 ⟨rfl, hb1⟩)
          go_ret2
          exact ⟨by rw [HCA.out, HQ.out]; rfl, hb1⟩
        · have hq : ((encS v).toList == (s.extract a (a + 3)).toList) = false := by
            rw [ByteArray.toList_eq, ByteArray.toList_eq, e1, beq_eq_false_iff_ne]; exact c2
          rw [if_neg (by rintro ⟨_, _, h⟩; exact c2 h)] at HR2
          have HQ := Lib.hid HR2
          rw [Int.toNat_natCast] at HE
          clear HR2 e1 e2 c1 c2 hC
          go_wp2_with (go_at_call 36; (with_reducible refine (HE.out _).mono ?_); rintro e w1 ⟨rfl, hb1⟩)
          go_ret2
          exact ⟨by rw [HCA.out, HQ.out]; rfl, hb1⟩
      · have hC : isC (v : Int) = false := by unfold isC; rw [Int.toNat_natCast]; simp [c1]
        have HE := Lib.hid (fun w => rencode_f (v : Int) w hC)
        rw [if_neg (by rintro ⟨_, h, _⟩; exact c1 h)] at HR2
        have HQ := Lib.hid HR2
        clear HR2 e1 e2 c1 hC
        go_wp2_with (go_at_call 36; (with_reducible refine (HE.out _).mono ?_); rintro e w1 ⟨rfl, rfl⟩)
        go_ret2
        exact ⟨by rw [HCA.out, HQ.out]; rfl, Below.refl _ _⟩
set_option maxRecDepth 100000 in
set_option maxHeartbeats 4000000 in
theorem rdecode_2 (s : ByteArray) (a : Nat) (w : World) (hs : s.size ≤ 4611686018427387904) (ha : a < s.size) (b : Nat) (hb : (s[a]).toNat = b) (h1 : ¬ 240 ≤ b) (h2 : ¬ 224 ≤ b) (h3 : 192 ≤ b) : Calls Tryd.prog 25 #[.string s, .int .i64 a] w fun e w' => e = .returned (.tuple #[.int .i64 (chAt s a).1, .int .i64 (chAt s a).2]) ∧ Below w.heap.size w w' := by
  have hn : nth (s.data.toList.drop a) 0 = b := by rw [← nth_drop (show a + 0 < s.size by omega)]; exact hb
  have hle : lead b = (2, b % 32) := by unfold lead; rw [if_neg h1, if_neg h2, if_pos h3]
  have hK : (lead (nth (s.data.toList.drop a) 0)).1 = 2 := by rw [hn, hle]
  have b256 : b < 256 := by rw [← hb]; exact (s[a]).toNat_lt
  by_cases hlen : s.size - a < 2
  · have HC := Lib.hid (rchAt_f (w := w) 2 hK ha hlen)
    have hb0 : bits .and .i64 (b : Int) 31 = (b : Int) % 32 := band 5 (by decide) (by omega) (by omega)
    clear hn hle hK
    have h1i : ¬ 240 ≤ (b : Int) := by omega
    have h2i : ¬ 224 ≤ (b : Int) := by omega
    have h3i : 192 ≤ (b : Int) := by omega
    clear h1 h2 h3
    go_enter Tryd.func25, Tryd.ntmps25
    go_wp2
    go_ret2
    exact ⟨by rw [HC.out]; rfl, Below.refl _ _⟩
  have HR := Lib.hid (hd_ref (s.data.toList.drop a) hK (r := more (s.data.toList.drop a) (b % 32) 1) (by rw [hn, hle]))
  have HCA := Lib.hid (chAt_in ha)
  have hmt := more_lt (s.data.toList.drop a) (b % 32) 1
  have hm0 : Hid (more (s.data.toList.drop a) (b % 32) 0 = b % 32) := rfl
  have hgen : ∀ k, more (s.data.toList.drop a) (b % 32) (k + 1) = more (s.data.toList.drop a) (b % 32) k * 64 + nth (s.data.toList.drop a) (k + 1) % 64 := fun _ => rfl
  have hbd : ∀ k, k ≤ 3 → more (s.data.toList.drop a) (b % 32) k < 256 * 64 ^ 3 := fun k hk => Nat.lt_of_lt_of_le (more_lt _ _ _) (Nat.mul_le_mul (by omega) (Nat.pow_le_pow_right (by omega) hk))
  have HG := Lib.hid hgen
  have HB := Lib.hid hbd
  have hb0 : bits .and .i64 (b : Int) 31 = (b : Int) % 32 := band 5 (by decide) (by omega) (by omega)
  clear hn hle hK hgen hbd hmt
  have h1i : ¬ 240 ≤ (b : Int) := by omega
  have h2i : ¬ 224 ≤ (b : Int) := by omega
  have h3i : 192 ≤ (b : Int) := by omega
  clear h1 h2 h3
  generalize hfun : more (s.data.toList.drop a) (b % 32) = mf at *
  have HF := Lib.hid hfun
  have d1 : decide ((a : Int) < 0) = false := decide_eq_false (by omega)
  have d2 : decide (s.size ≤ a) = false := decide_eq_false (by omega)
  have d3 : decide ((s.size : Int) - (a : Int) < 2) = false := decide_eq_false (by omega)
  have d4 : ¬ (s.size : Int) - (a : Int) < 2 := by omega
  clear hfun
  go_enter Tryd.func25, Tryd.ntmps25
  go_wp2
  go_loop [8, 9] (fun r i => ∃ k : Nat, 1 ≤ k ∧ k ≤ 2 ∧ i = .int .i64 k ∧ r = .int .i64 (mf (k - 1) : Nat)) (fun _ i => 10 - (intOf i).toNat)
  case atStart => exact ⟨1, by omega, by omega, rfl, by rw [show 1 - 1 = 0 from rfl, hm0.out]; try rfl⟩
  case round =>
    obtain ⟨k, hk1, hk, rfl, rfl⟩ := hrel
    by_cases hlt : k < 2
    · have hin : a + k < s.size := by omega
      have hby := nth_drop hin
      have hx : nth (s.data.toList.drop a) k < 256 := nth_lt _ _
      have HX : Hid (nth (s.data.toList.drop a) k = nth (s.data.toList.drop a) k) := rfl
      have hst : mf k = mf (k - 1) * 64 + nth (s.data.toList.drop a) k % 64 := by
        have := HG.out (k - 1)
        rwa [show k - 1 + 1 = k by omega] at this
      have hv := HB.out (k - 1) (by omega)
      have HS := Lib.hid hst
      obtain ⟨x, hxx⟩ : ∃ x, nth (s.data.toList.drop a) k = x := ⟨_, rfl⟩
      rw [hxx] at hby hx HS
      generalize mf (k - 1) = v at *
      have c1 : bits .and .i64 (x : Int) 63 = (x : Int) % 64 := band 6 (by decide) (by omega) (by omega)
      have c2 : bits .or .i64 ((v : Int) * 64) ((x : Int) % 64) = (v : Int) * 64 + (x : Int) % 64 := bor 6 (by omega) (by omega) (by omega) (by omega) (by omega) (by omega)
      clear hst hxx
      go_wp2
      go_round
      case rel => exact ⟨k + 1, by omega, by omega, by go_num, congrArg (Value.int .i64) (by rw [show k + 1 - 1 = k by omega, HS.out]; omega)⟩
      case measure => simp [intOf]; omega
    · obtain rfl : k = 2 := by omega
      have hv := HB.out (2 - 1) (by omega)
      have HR2 := HR.out
      have HV : Hid (mf 1 = mf (2 - 1)) := rfl
      rw [HV.out] at HR2
      generalize mf (2 - 1) = v at *
      have e1 : (s.extract a (a + 2)).data.toList = (s.data.toList.drop a).take 2 := ext_take s a 2
      have e2 : (s.data.toList.drop a).length = s.size - a := by rw [List.length_drop]; rfl
      by_cases c1 : chr v = true
      · have hC : isC (v : Int) = true := by unfold isC; rw [Int.toNat_natCast, c1]; simp
        have HE := Lib.hid (fun w => rencode_t (v : Int) w hC)
        by_cases c2 : enc v = (s.data.toList.drop a).take 2
        · have hq : ((encS v).toList == (s.extract a (a + 2)).toList) = true := by
            rw [ByteArray.toList_eq, ByteArray.toList_eq, e1, ← c2]; exact beq_self_eq_true _
          rw [if_pos ⟨by omega, c1, c2⟩] at HR2
          have HQ := Lib.hid HR2
          rw [Int.toNat_natCast] at HE
          clear HR2 e1 e2 c1 c2 hC
          go_wp2_with (go_at_call 36; (with_reducible refine (HE.out _).mono ?_); rintro e w1 ⟨rfl, hb1⟩)
          go_ret2
          exact ⟨by rw [HCA.out, HQ.out]; rfl, hb1⟩
        · have hq : ((encS v).toList == (s.extract a (a + 2)).toList) = false := by
            rw [ByteArray.toList_eq, ByteArray.toList_eq, e1, beq_eq_false_iff_ne]; exact c2
          rw [if_neg (by rintro ⟨_, _, h⟩; exact c2 h)] at HR2
          have HQ := Lib.hid HR2
          rw [Int.toNat_natCast] at HE
          clear HR2 e1 e2 c1 c2 hC
          go_wp2_with (go_at_call 36; (with_reducible refine (HE.out _).mono ?_); rintro e w1 ⟨rfl, hb1⟩)
          go_ret2
          exact ⟨by rw [HCA.out, HQ.out]; rfl, hb1⟩
      · have hC : isC (v : Int) = false := by unfold isC; rw [Int.toNat_natCast]; simp [c1]
        have HE := Lib.hid (fun w => rencode_f (v : Int) w hC)
        rw [if_neg (by rintro ⟨_, h, _⟩; exact c1 h)] at HR2
        have HQ := Lib.hid HR2
        clear HR2 e1 e2 c1 hC
        go_wp2_with (go_at_call 36; (with_reducible refine (HE.out _).mono ?_); rintro e w1 ⟨rfl, rfl⟩)
        go_ret2
        exact ⟨by rw [HCA.out, HQ.out]; rfl, Below.refl _ _⟩
set_option maxRecDepth 100000 in
set_option maxHeartbeats 4000000 in
theorem rdecode_1 (s : ByteArray) (a : Nat) (w : World) (hs : s.size ≤ 4611686018427387904) (ha : a < s.size) (b : Nat) (hb : (s[a]).toNat = b) (h1 : ¬ 240 ≤ b) (h2 : ¬ 224 ≤ b) (h3 : ¬ 192 ≤ b) : Calls Tryd.prog 25 #[.string s, .int .i64 a] w fun e w' => e = .returned (.tuple #[.int .i64 (chAt s a).1, .int .i64 (chAt s a).2]) ∧ Below w.heap.size w w' := by
  have hn : nth (s.data.toList.drop a) 0 = b := by rw [← nth_drop (show a + 0 < s.size by omega)]; exact hb
  have hle : lead b = (1, b) := by unfold lead; rw [if_neg h1, if_neg h2, if_neg h3]
  have hK : (lead (nth (s.data.toList.drop a) 0)).1 = 1 := by rw [hn, hle]
  have b256 : b < 256 := by rw [← hb]; exact (s[a]).toNat_lt
  by_cases hlen : s.size - a < 1
  · exact absurd hlen (by omega)
  have HR := Lib.hid (hd_ref (s.data.toList.drop a) hK (r := more (s.data.toList.drop a) (b) 0) (by rw [hn, hle]))
  have HCA := Lib.hid (chAt_in ha)
  have hmt := more_lt (s.data.toList.drop a) (b) 0
  have hm0 : Hid (more (s.data.toList.drop a) (b) 0 = b) := rfl
  have hgen : ∀ k, more (s.data.toList.drop a) (b) (k + 1) = more (s.data.toList.drop a) (b) k * 64 + nth (s.data.toList.drop a) (k + 1) % 64 := fun _ => rfl
  have hbd : ∀ k, k ≤ 3 → more (s.data.toList.drop a) (b) k < 256 * 64 ^ 3 := fun k hk => Nat.lt_of_lt_of_le (more_lt _ _ _) (Nat.mul_le_mul (by omega) (Nat.pow_le_pow_right (by omega) hk))
  have HG := Lib.hid hgen
  have HB := Lib.hid hbd
  skip
  clear hn hle hK hgen hbd hmt
  have h1i : ¬ 240 ≤ (b : Int) := by omega
  have h2i : ¬ 224 ≤ (b : Int) := by omega
  have h3i : ¬ 192 ≤ (b : Int) := by omega
  clear h1 h2 h3
  generalize hfun : more (s.data.toList.drop a) (b) = mf at *
  have HF := Lib.hid hfun
  have d1 : decide ((a : Int) < 0) = false := decide_eq_false (by omega)
  have d2 : decide (s.size ≤ a) = false := decide_eq_false (by omega)
  have d3 : decide ((s.size : Int) - (a : Int) < 1) = false := decide_eq_false (by omega)
  have d4 : ¬ (s.size : Int) - (a : Int) < 1 := by omega
  clear hfun
  go_enter Tryd.func25, Tryd.ntmps25
  go_wp2
  go_loop [8, 9] (fun r i => ∃ k : Nat, 1 ≤ k ∧ k ≤ 1 ∧ i = .int .i64 k ∧ r = .int .i64 (mf (k - 1) : Nat)) (fun _ i => 10 - (intOf i).toNat)
  case atStart => exact ⟨1, by omega, by omega, rfl, by rw [show 1 - 1 = 0 from rfl, hm0.out]; try rfl⟩
  case round =>
    obtain ⟨k, hk1, hk, rfl, rfl⟩ := hrel
    by_cases hlt : k < 1
    · exact absurd hlt (by omega)
    · obtain rfl : k = 1 := by omega
      have hv := HB.out (1 - 1) (by omega)
      have HR2 := HR.out
      have HV : Hid (mf 0 = mf (1 - 1)) := rfl
      rw [HV.out] at HR2
      generalize mf (1 - 1) = v at *
      have e1 : (s.extract a (a + 1)).data.toList = (s.data.toList.drop a).take 1 := ext_take s a 1
      have e2 : (s.data.toList.drop a).length = s.size - a := by rw [List.length_drop]; rfl
      by_cases c1 : chr v = true
      · have hC : isC (v : Int) = true := by unfold isC; rw [Int.toNat_natCast, c1]; simp
        have HE := Lib.hid (fun w => rencode_t (v : Int) w hC)
        by_cases c2 : enc v = (s.data.toList.drop a).take 1
        · have hq : ((encS v).toList == (s.extract a (a + 1)).toList) = true := by
            rw [ByteArray.toList_eq, ByteArray.toList_eq, e1, ← c2]; exact beq_self_eq_true _
          rw [if_pos ⟨by omega, c1, c2⟩] at HR2
          have HQ := Lib.hid HR2
          rw [Int.toNat_natCast] at HE
          clear HR2 e1 e2 c1 c2 hC
          go_wp2_with (go_at_call 36; (with_reducible refine (HE.out _).mono ?_); rintro e w1 ⟨rfl, hb1⟩)
          go_ret2
          exact ⟨by rw [HCA.out, HQ.out]; rfl, hb1⟩
        · have hq : ((encS v).toList == (s.extract a (a + 1)).toList) = false := by
            rw [ByteArray.toList_eq, ByteArray.toList_eq, e1, beq_eq_false_iff_ne]; exact c2
          rw [if_neg (by rintro ⟨_, _, h⟩; exact c2 h)] at HR2
          have HQ := Lib.hid HR2
          rw [Int.toNat_natCast] at HE
          clear HR2 e1 e2 c1 c2 hC
          go_wp2_with (go_at_call 36; (with_reducible refine (HE.out _).mono ?_); rintro e w1 ⟨rfl, hb1⟩)
          go_ret2
          exact ⟨by rw [HCA.out, HQ.out]; rfl, hb1⟩
      · have hC : isC (v : Int) = false := by unfold isC; rw [Int.toNat_natCast]; simp [c1]
        have HE := Lib.hid (fun w => rencode_f (v : Int) w hC)
        rw [if_neg (by rintro ⟨_, h, _⟩; exact c1 h)] at HR2
        have HQ := Lib.hid HR2
        clear HR2 e1 e2 c1 hC
        go_wp2_with (go_at_call 36; (with_reducible refine (HE.out _).mono ?_); rintro e w1 ⟨rfl, rfl⟩)
        go_ret2
        exact ⟨by rw [HCA.out, HQ.out]; rfl, Below.refl _ _⟩
theorem rdecode_any (s : ByteArray) (a : Int) (w : World) (hs : s.size ≤ 4611686018427387904) (ha : -9223372036854775808 ≤ a ∧ a ≤ 9223372036854775807) : Calls Tryd.prog 25 #[.string s, .int .i64 a] w fun e w' => e = .returned (.tuple #[.int .i64 (chAt s a).1, .int .i64 (chAt s a).2]) ∧ Below w.heap.size w w' := by
  by_cases h1 : a < 0
  · have HC := Lib.hid (chAt_out (s := s) (.inl h1))
    go_enter Tryd.func25, Tryd.ntmps25
    go_wp2
    go_ret2
    exact ⟨by rw [HC.out]; rfl, Below.refl _ _⟩
  by_cases h2 : (s.size : Int) ≤ a
  · have HC := Lib.hid (chAt_out (s := s) (.inr h2))
    go_enter Tryd.func25, Tryd.ntmps25
    go_wp2
    go_ret2
    exact ⟨by rw [HC.out]; rfl, Below.refl _ _⟩
  obtain ⟨k, rfl⟩ := Int.eq_ofNat_of_zero_le (show 0 ≤ a by omega)
  have hk : k < s.size := by omega
  by_cases g1 : 240 ≤ (s[k]).toNat
  · exact rdecode_4 s k w hs hk _ rfl g1
  by_cases g2 : 224 ≤ (s[k]).toNat
  · exact rdecode_3 s k w hs hk _ rfl g1 g2
  by_cases g3 : 192 ≤ (s[k]).toNat
  · exact rdecode_2 s k w hs hk _ rfl g1 g2 g3
  · exact rdecode_1 s k w hs hk _ rfl g1 g2 g3
end Go.Proofs.YtiodnncpgdiejaaDoor.Utf
