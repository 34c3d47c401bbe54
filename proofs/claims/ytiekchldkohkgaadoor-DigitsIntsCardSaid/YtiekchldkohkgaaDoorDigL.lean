/-
  Contracts of package digits and its reference: any string.
-/
import Derived.Test.YtiekchldkohkgaaDoorDigK
namespace Go.Proofs.YtiekchldkohkgaaDoor.Dig
open Go.RowKit
set_option linter.unusedVariables false
set_option linter.unusedSimpArgs false

def trS (l : List UInt8) : Nat := if digs l = true then limS (val l) else 0
def trE (l : List UInt8) : Int := if digs l = true then limE (val l) else 3
theorem trS_f {l : List UInt8} (h : digs l = false) : trS l = 0 := by unfold trS; rw [h]; rfl
theorem trE_f {l : List UInt8} (h : digs l = false) : trE l = 3 := by unfold trE; rw [h]; rfl
theorem trS_t {l : List UInt8} (h : digs l = true) : trS l = limS (val l) := by unfold trS; rw [h]; rfl
theorem trE_t {l : List UInt8} (h : digs l = true) : trE l = limE (val l) := by unfold trE; rw [h]; rfl
theorem Num_size {s : ByteArray} {n : Nat} (h : Num s n) : (S n).size ≤ s.size := by
  rw [S_size, ← h.strip, ← size_list]; exact (strip_sub _).length_le
set_option maxHeartbeats 400000 in
theorem trim_any (s : ByteArray) (w : World) (hs : s.size ≤ 1500) : Calls Tryd.prog 11 #[.string s] w fun e w' => e = .returned (.tuple #[.string (S (trS s.data.toList)), .int .i64 (trE s.data.toList)]) ∧ w = w' := by
  cases hd : digs s.data.toList with
  | false =>
    have e1 := Lib.hid (trS_f hd)
    have e2 := Lib.hid (trE_f hd)
    have HB := Lib.hid hd
    clear hd
    go_enter Tryd.func11, Tryd.ntmps11
    go_wp2_with (go_at_call 33; (with_reducible refine (allDigits_f _ _ (by omega) HB).mono ?_); rintro e w' ⟨rfl, rfl⟩)
    go_ret2
    exact ⟨by rw [e1.out, e2.out]; rfl, rfl⟩
  | true =>
    have e1 := Lib.hid (trS_t hd)
    have e2 := Lib.hid (trE_t hd)
    have hN : Num s (val s.data.toList) := ⟨hd, rfl⟩
    have HB := Lib.hid hd
    have hz := Num_size hN
    clear hd
    generalize val s.data.toList = n at *
    go_enter Tryd.func11, Tryd.ntmps11
    go_wp2_with (first | (go_at_call 33; (with_reducible refine (allDigits_t _ _ (by omega) HB).mono ?_); rintro e w' ⟨rfl, rfl⟩) | (go_at_call 35; (with_reducible refine (trimLeft_num _ _ _ hN).mono ?_); rintro e w' ⟨rfl, rfl⟩) | (go_at_call 34; (with_reducible refine (limited_any _ _ (by omega)).mono ?_); rintro e w' ⟨rfl, rfl⟩))
    go_ret2
    exact ⟨by rw [e1.out, e2.out]; rfl, rfl⟩
set_option maxHeartbeats 400000 in
theorem rtrim_any (s : ByteArray) (w : World) (hs : s.size ≤ 1500) : Calls Tryd.prog 13 #[.string s] w fun e w' => e = .returned (.tuple #[.string (S (trS s.data.toList)), .int .i64 (trE s.data.toList)]) ∧ w = w' := by
  cases hd : digs s.data.toList with
  | false =>
    have e1 := Lib.hid (trS_f hd)
    have e2 := Lib.hid (trE_f hd)
    have HB := Lib.hid hd
    clear hd
    go_enter Tryd.func13, Tryd.ntmps13
    go_wp2_with (go_at_call 36; (with_reducible refine (rdigits_f _ _ (by omega) HB).mono ?_); rintro e w' ⟨rfl, rfl⟩)
    go_ret2
    exact ⟨by rw [e1.out, e2.out]; rfl, rfl⟩
  | true =>
    have e1 := Lib.hid (trS_t hd)
    have e2 := Lib.hid (trE_t hd)
    have hN : Num s (val s.data.toList) := ⟨hd, rfl⟩
    have HB := Lib.hid hd
    have hz := Num_size hN
    clear hd
    generalize val s.data.toList = n at *
    by_cases hl : (S n).size ≤ 600
    · have e3 : Hid (limS n = n) := if_pos (by rw [← S_size]; exact hl)
      have e4 : Hid (limE n = 0) := if_pos (by rw [← S_size]; exact hl)
      go_enter Tryd.func13, Tryd.ntmps13
      go_wp2_with (first | (go_at_call 36; (with_reducible refine (rdigits_t _ _ (by omega) HB).mono ?_); rintro e w' ⟨rfl, rfl⟩) | (go_at_call 37; (with_reducible refine (strip_any _ _ _ (by omega) hN).mono ?_); rintro e w' ⟨rfl, rfl⟩))
      go_ret2
      exact ⟨by rw [e1.out, e2.out, e3.out, e4.out]; rfl, rfl⟩
    · have e3 : Hid (limS n = 0) := if_neg (by rw [← S_size]; exact hl)
      have e4 : Hid (limE n = 2) := if_neg (by rw [← S_size]; exact hl)
      go_enter Tryd.func13, Tryd.ntmps13
      go_wp2_with (first | (go_at_call 36; (with_reducible refine (rdigits_t _ _ (by omega) HB).mono ?_); rintro e w' ⟨rfl, rfl⟩) | (go_at_call 37; (with_reducible refine (strip_any _ _ _ (by omega) hN).mono ?_); rintro e w' ⟨rfl, rfl⟩))
      go_ret2
      exact ⟨by rw [e1.out, e2.out, e3.out, e4.out]; rfl, rfl⟩

def maxI : Nat := 9223372036854775807
def maxL : List UInt8 := [57, 50, 50, 51, 51, 55, 50, 48, 51, 54, 56, 53, 52, 55, 55, 53, 56, 48, 55]
theorem maxL_num : num maxI = maxL := by
  have h : numB maxL = true := by decide
  have hv : val maxL = maxI := by decide
  rw [← hv, num_val h]
theorem maxI_S : (⟨#[57, 50, 50, 51, 51, 55, 50, 48, 51, 54, 56, 53, 52, 55, 55, 53, 56, 48, 55]⟩ : ByteArray) = S maxI := ba_ext (by rw [S_list, maxL_num]; rfl)
theorem maxI_size : (S maxI).size = 19 := by rw [S_size, maxL_num]; rfl
def tiV (x : Nat) : Nat := if x ≤ maxI then x else 0
def tiE (x : Nat) : Int := if x ≤ maxI then 0 else 2
theorem pre_le {x la i : Nat} : x / 10 ^ (la - i) ≤ x := Nat.div_le_self _ _

theorem cmp_max {x : Nat} {w : World} (hx : (S x).size ≤ 600) : Calls Tryd.prog 23 #[.string (S x), .string ⟨#[57, 50, 50, 51, 51, 55, 50, 48, 51, 54, 56, 53, 52, 55, 55, 53, 56, 48, 55]⟩] w fun e w' => e = .returned (.int .i64 (cmpN x maxI)) ∧ w = w' := by
  rw [maxI_S]
  have := maxI_size
  exact cmp_any x maxI w (by omega) (by omega)
set_option maxRecDepth 100000 in
set_option maxHeartbeats 1000000 in
theorem toInt_S (x : Nat) (w : World) (hx : (S x).size ≤ 600) : Calls Tryd.prog 12 #[.string (S x)] w fun e w' => e = .returned (.tuple #[.int .i64 (tiV x), .int .i64 (tiE x)]) ∧ w = w' := by
  have HCmp := Lib.hid (cmp_max (x := x) (w := w) hx)
  by_cases h : x ≤ maxI
  · have e1 : Hid (tiV x = x) := if_pos h
    have e2 : Hid (tiE x = 0) := if_pos h
    have HC : cmpN x maxI ≤ 0 := by unfold cmpN; split <;> (try split) <;> omega
    generalize cmpN x maxI = cm at *
    obtain ⟨la, hla⟩ : ∃ n : Nat, (S x).size = n := ⟨_, rfl⟩
    have P0 := Lib.hid (pre_zero hla)
    have LA := Lib.hid hla
    have hb : x ≤ 9223372036854775807 := h
    clear h
    go_enter Tryd.func12, Tryd.ntmps12
    go_wp2_with (first | (go_at_call 15; (with_reducible refine (valid_S (by omega)).mono ?_); rintro e w' ⟨rfl, rfl⟩) | (go_at_call 23; (with_reducible refine HCmp.out.mono ?_); rintro e w' ⟨rfl, rfl⟩))
    go_loop [4, 14] (fun n i => ∃ k : Nat, k ≤ la ∧ i = .int .i64 k ∧ n = .int .i64 ((x / 10 ^ (la - k) : Nat) : Int)) (fun _ i => la - (intOf i).toNat)
    case atStart => exact ⟨0, Nat.zero_le _, rfl, by rw [P0.out]; rfl⟩
    case round =>
      obtain ⟨k, hk, rfl, rfl⟩ := hrel
      by_cases hlt : k < la
      · have hix : k < (S x).size := by omega
        have hbd := S_byte hix
        have HS := Lib.hid (pre_succ hla hix)
        have hle := pre_le (x := x) (la := la) (i := k + 1)
        rw [HS.out] at hle
        generalize x / 10 ^ (la - k) = v at *
        go_wp2
        go_round
        case rel => exact ⟨k + 1, by omega, by go_num, congrArg (Value.int .i64) (by rw [HS.out]; omega)⟩
        case measure => simp [intOf]; omega
      · obtain rfl : k = la := by omega
        have E0 : Hid (x / 10 ^ (k - k) = x) := Lib.hid (by rw [Nat.sub_self, Nat.pow_zero, Nat.div_one])
        go_wp2
        go_ret2
        exact ⟨by rw [e1.out, e2.out]; simp, rfl⟩
  · have e1 : Hid (tiV x = 0) := if_neg h
    have e2 : Hid (tiE x = 2) := if_neg h
    have HC : 0 < cmpN x maxI := by rw [cmpN_gt (show maxI < x by omega)]; omega
    generalize cmpN x maxI = cm at *
    clear h
    go_enter Tryd.func12, Tryd.ntmps12
    go_wp2_with (first | (go_at_call 15; (with_reducible refine (valid_S (by omega)).mono ?_); rintro e w' ⟨rfl, rfl⟩) | (go_at_call 23; (with_reducible refine HCmp.out.mono ?_); rintro e w' ⟨rfl, rfl⟩))
    go_ret2
    exact ⟨by rw [e1.out, e2.out]; rfl, rfl⟩
end Go.Proofs.YtiekchldkohkgaaDoor.Dig
