/-
  Contracts of package utf and its reference: encodings.
-/
import Derived.Test.YtiodnncpgdiejaaDoorBase
import Derived.Test.YtiodnncpgdiejaaDoorUtfMath
import Derived.Test.YtiodnncpgdiejaaDoorShelf
import Derived.Lib.Strings
import Derived.Lib.SmallJoins
import Derived.Test.YtiodnncpgdiejaaDoorBits
namespace Go.Proofs.YtiodnncpgdiejaaDoor.Utf
open Go.RowKit
set_option linter.unusedVariables false
set_option linter.unusedSimpArgs false

theorem ba_ext {a b : ByteArray} (h : a.data.toList = b.data.toList) : a = b := by
  cases a; cases b; congr 1; exact Array.ext' h
/-- Is an int a character? -/
def isC (r : Int) : Bool := decide (0 ≤ r) && chr r.toNat
theorem isC_iff {r : Int} : isC r = true ↔ (0 ≤ r ∧ r < 55296) ∨ (57344 ≤ r ∧ r ≤ 1114111) := by
  unfold isC; rw [Bool.and_eq_true, chr_iff, decide_eq_true_eq]; omega
def encS (r : Nat) : ByteArray := ⟨(enc r).toArray⟩
theorem encode_eq {r : Int} (h : isC r = true) : Utf8.encode r = encS r.toNat := by
  have hv : Utf8.valid r = true := by
    rw [isC_iff] at h; unfold Utf8.valid; simp; omega
  unfold Utf8.encode encS enc
  simp only [hv, if_true]
  repeat' split
  all_goals first | rfl | (exfalso; omega)
set_option maxHeartbeats 400000 in
theorem encode_t (r : Int) (w : World) (h : isC r = true) : Calls Tryd.prog 14 #[.int .i64 r] w fun e w' => e = .returned (.tuple #[.string (encS r.toNat), .int .i64 0]) ∧ w = w' := by
  have HE := Lib.hid (encode_eq h)
  have hr := isC_iff.1 h
  have HV : Hid (Lib.validRune r = true) := Lib.hid (by unfold Lib.validRune; simp; omega)
  have hc : Calls Tryd.prog 28 #[.int .i32 r] w fun e w' => e = .returned (.bool true) ∧ w' = w := by
    have := Tryd.utf8_ValidRune r w
    rwa [HV.out] at this
  have HC := Lib.hid hc
  have b1 : 0 ≤ r := by omega
  have b2 : r ≤ 1114111 := by omega
  clear h hr hc
  go_enter Tryd.func14, Tryd.ntmps14
  go_wp2_with (go_at_call 28; (with_reducible refine HC.out.mono ?_); rintro e w' ⟨rfl, rfl⟩)
  go_ret2
  exact ⟨by rw [HE.out]; rfl, rfl⟩
set_option maxHeartbeats 400000 in
theorem encode_f (r : Int) (w : World) (h : isC r = false) : Calls Tryd.prog 14 #[.int .i64 r] w fun e w' => e = .returned (.tuple #[.string ⟨#[]⟩, .int .i64 2]) ∧ w = w' := by
  have hr : ¬ ((0 ≤ r ∧ r < 55296) ∨ (57344 ≤ r ∧ r ≤ 1114111)) := by rw [← isC_iff, h]; simp
  by_cases b1 : 0 ≤ r ∧ r ≤ 1114111
  · obtain ⟨b1, b2⟩ := b1
    have hc : Calls Tryd.prog 28 #[.int .i32 r] w fun e w' => e = .returned (.bool false) ∧ w' = w := by
      have := Tryd.utf8_ValidRune r w
      rwa [show Lib.validRune r = false by unfold Lib.validRune; simp; omega] at this
    have HC := Lib.hid hc
    clear h hr hc
    go_enter Tryd.func14, Tryd.ntmps14
    go_wp2_with (go_at_call 28; (with_reducible refine HC.out.mono ?_); rintro e w' ⟨rfl, rfl⟩)
    go_ret2
    exact ⟨rfl, rfl⟩
  · have b2 : r < 0 ∨ (0 ≤ r ∧ 1114111 < r) := by omega
    clear h hr b1
    rcases b2 with b2 | ⟨b1, b2⟩
    all_goals
      go_enter Tryd.func14, Tryd.ntmps14
      go_wp2
      go_ret2
      exact ⟨rfl, rfl⟩
theorem char_t (r : Int) (w : World) (h : isC r = true) : Calls Tryd.prog 41 #[.int .i64 r] w fun e w' => e = .returned (.bool true) ∧ w = w' := by
  have hr := isC_iff.1 h
  have b1 : 0 ≤ r := by omega
  have b2 : r ≤ 1114111 := by omega
  clear h
  by_cases h1 : r < 55296
  · go_enter Tryd.func41, Tryd.ntmps41
    go_wp2
    go_ret
    exact ⟨rfl, rfl⟩
  · have h2 : 57343 < r := by omega
    clear hr
    go_enter Tryd.func41, Tryd.ntmps41
    go_wp2
    go_ret
    exact ⟨rfl, rfl⟩
theorem char_f (r : Int) (w : World) (h : isC r = false) : Calls Tryd.prog 41 #[.int .i64 r] w fun e w' => e = .returned (.bool false) ∧ w = w' := by
  have hr : ¬ ((0 ≤ r ∧ r < 55296) ∨ (57344 ≤ r ∧ r ≤ 1114111)) := by rw [← isC_iff, h]; simp
  by_cases h1 : r < 0
  · go_enter Tryd.func41, Tryd.ntmps41
    go_wp2
    go_ret
    exact ⟨rfl, rfl⟩
  by_cases h2 : 1114111 < r
  · clear hr h
    go_enter Tryd.func41, Tryd.ntmps41
    go_wp2
    go_ret
    exact ⟨rfl, rfl⟩
  have b1 : 0 ≤ r := by omega
  have b2 : r ≤ 1114111 := by omega
  have b3 : 55296 ≤ r := by omega
  have b4 : r ≤ 57343 := by omega
  have b5 : ¬ r < 55296 := by omega
  have b6 : ¬ 57343 < r := by omega
  clear h hr h1 h2
  go_enter Tryd.func41, Tryd.ntmps41
  go_wp2
  go_ret
  exact ⟨rfl, rfl⟩
set_option maxRecDepth 100000 in
set_option maxHeartbeats 2000000 in
theorem rencode_1 (r : Int) (w : World) (h : isC r = true) (h1 : r < 128) : Calls Tryd.prog 36 #[.int .i64 r] w fun e w' => e = .returned (.tuple #[.string (encS r.toNat), .int .i64 0]) ∧ Below w.heap.size w w' := by
  have hr := isC_iff.1 h
  have HC := Lib.hid h
  have q1 : 0 ≤ r := by omega
  have q2 : r ≤ 1114111 := by omega
  clear h hr
  obtain ⟨m, hm⟩ : ∃ m : Nat, (m : Int) = r := ⟨r.toNat, by omega⟩
  have HE : Hid (encS r.toNat = ⟨#[byt m]⟩) := Lib.hid (by rw [← hm, Int.toNat_natCast]; unfold encS enc; rw [if_pos (by omega)])
  have hcv := conv_cells w [byt m] [(m : Int)] (by simp only [List.map_cons, List.map_nil]; rw [byt_toNat (by omega)]; try simp) 9 Tryd.underlying9
  rw [hm] at hcv
  clear hm
  simp only [List.map_cons, List.map_nil, List.length_cons, List.length_nil, Nat.zero_add, Nat.reduceAdd] at hcv
  generalize (⟨#[byt m]⟩ : ByteArray) = R at *
  go_enter Tryd.func36, Tryd.ntmps36
  go_wp2_with (go_at_call 41; (with_reducible refine (char_t _ _ HC.out).mono ?_); rintro e w' ⟨rfl, rfl⟩)
  go_ret2
  exact ⟨by rw [HE.out]; rfl, (Below.refl _ _).alloc (Nat.le_refl _) _⟩
set_option maxRecDepth 100000 in
set_option maxHeartbeats 2000000 in
theorem rencode_2 (r : Int) (w : World) (h : isC r = true) (h1 : 128 ≤ r) (h2 : r < 2048) : Calls Tryd.prog 36 #[.int .i64 r] w fun e w' => e = .returned (.tuple #[.string (encS r.toNat), .int .i64 0]) ∧ Below w.heap.size w w' := by
  have hr := isC_iff.1 h
  have HC := Lib.hid h
  have q1 : 0 ≤ r := by omega
  have q2 : r ≤ 1114111 := by omega
  clear h hr
  obtain ⟨m, hm⟩ : ∃ m : Nat, (m : Int) = r := ⟨r.toNat, by omega⟩
  have HE : Hid (encS r.toNat = ⟨#[byt (192 + m / 64), byt (128 + m % 64)]⟩) := Lib.hid (by rw [← hm, Int.toNat_natCast]; unfold encS enc; rw [if_neg (by omega), if_pos (by omega)])
  have hcv := conv_cells w [byt (192 + m / 64), byt (128 + m % 64)] [192 + (m : Int) / 64, 128 + (m : Int) % 64] (by simp only [List.map_cons, List.map_nil]; rw [byt_toNat (by omega), byt_toNat (by omega)]; try simp) 9 Tryd.underlying9
  rw [hm] at hcv
  clear hm
  simp only [List.map_cons, List.map_nil, List.length_cons, List.length_nil, Nat.zero_add, Nat.reduceAdd] at hcv
  have b1 : bits .or .i64 192 (r / 64) = 192 + r / 64 := bor 5 (by omega) (by decide) (by decide) (by omega) (by omega) (by omega)
  have b2 : bits .and .i64 (r) 63 = r % 64 := band 6 (by decide) (by omega) (by omega)
  have b3 : bits .or .i64 128 (r % 64) = 128 + r % 64 := bor 6 (by omega) (by decide) (by decide) (by omega) (by omega) (by omega)
  generalize (⟨#[byt (192 + m / 64), byt (128 + m % 64)]⟩ : ByteArray) = R at *
  go_enter Tryd.func36, Tryd.ntmps36
  go_wp2_with (go_at_call 41; (with_reducible refine (char_t _ _ HC.out).mono ?_); rintro e w' ⟨rfl, rfl⟩)
  go_ret2
  exact ⟨by rw [HE.out]; rfl, (Below.refl _ _).alloc (Nat.le_refl _) _⟩
set_option maxRecDepth 100000 in
set_option maxHeartbeats 2000000 in
theorem rencode_3 (r : Int) (w : World) (h : isC r = true) (h1 : 2048 ≤ r) (h2 : r < 65536) : Calls Tryd.prog 36 #[.int .i64 r] w fun e w' => e = .returned (.tuple #[.string (encS r.toNat), .int .i64 0]) ∧ Below w.heap.size w w' := by
  have hr := isC_iff.1 h
  have HC := Lib.hid h
  have q1 : 0 ≤ r := by omega
  have q2 : r ≤ 1114111 := by omega
  clear h hr
  obtain ⟨m, hm⟩ : ∃ m : Nat, (m : Int) = r := ⟨r.toNat, by omega⟩
  have HE : Hid (encS r.toNat = ⟨#[byt (224 + m / 4096), byt (128 + m / 64 % 64), byt (128 + m % 64)]⟩) := Lib.hid (by rw [← hm, Int.toNat_natCast]; unfold encS enc; rw [if_neg (by omega), if_neg (by omega), if_pos (by omega)])
  have hcv := conv_cells w [byt (224 + m / 4096), byt (128 + m / 64 % 64), byt (128 + m % 64)] [224 + (m : Int) / 4096, 128 + (m : Int) / 64 % 64, 128 + (m : Int) % 64] (by simp only [List.map_cons, List.map_nil]; rw [byt_toNat (by omega), byt_toNat (by omega), byt_toNat (by omega)]; try simp) 9 Tryd.underlying9
  rw [hm] at hcv
  clear hm
  simp only [List.map_cons, List.map_nil, List.length_cons, List.length_nil, Nat.zero_add, Nat.reduceAdd] at hcv
  have b1 : bits .or .i64 224 (r / 4096) = 224 + r / 4096 := bor 4 (by omega) (by decide) (by decide) (by omega) (by omega) (by omega)
  have b2 : bits .and .i64 (r / 64) 63 = r / 64 % 64 := band 6 (by decide) (by omega) (by omega)
  have b3 : bits .or .i64 128 (r / 64 % 64) = 128 + r / 64 % 64 := bor 6 (by omega) (by decide) (by decide) (by omega) (by omega) (by omega)
  have b4 : bits .and .i64 (r) 63 = r % 64 := band 6 (by decide) (by omega) (by omega)
  have b5 : bits .or .i64 128 (r % 64) = 128 + r % 64 := bor 6 (by omega) (by decide) (by decide) (by omega) (by omega) (by omega)
  generalize (⟨#[byt (224 + m / 4096), byt (128 + m / 64 % 64), byt (128 + m % 64)]⟩ : ByteArray) = R at *
  go_enter Tryd.func36, Tryd.ntmps36
  go_wp2_with (go_at_call 41; (with_reducible refine (char_t _ _ HC.out).mono ?_); rintro e w' ⟨rfl, rfl⟩)
  go_ret2
  exact ⟨by rw [HE.out]; rfl, (Below.refl _ _).alloc (Nat.le_refl _) _⟩
set_option maxRecDepth 100000 in
set_option maxHeartbeats 2000000 in
theorem rencode_4 (r : Int) (w : World) (h : isC r = true) (h1 : 65536 ≤ r) : Calls Tryd.prog 36 #[.int .i64 r] w fun e w' => e = .returned (.tuple #[.string (encS r.toNat), .int .i64 0]) ∧ Below w.heap.size w w' := by
  have hr := isC_iff.1 h
  have HC := Lib.hid h
  have q1 : 0 ≤ r := by omega
  have q2 : r ≤ 1114111 := by omega
  clear h hr
  obtain ⟨m, hm⟩ : ∃ m : Nat, (m : Int) = r := ⟨r.toNat, by omega⟩
  have HE : Hid (encS r.toNat = ⟨#[byt (240 + m / 262144), byt (128 + m / 4096 % 64), byt (128 + m / 64 % 64), byt (128 + m % 64)]⟩) := Lib.hid (by rw [← hm, Int.toNat_natCast]; unfold encS enc; rw [if_neg (by omega), if_neg (by omega), if_neg (by omega)])
  have hcv := conv_cells w [byt (240 + m / 262144), byt (128 + m / 4096 % 64), byt (128 + m / 64 % 64), byt (128 + m % 64)] [240 + (m : Int) / 262144, 128 + (m : Int) / 4096 % 64, 128 + (m : Int) / 64 % 64, 128 + (m : Int) % 64] (by simp only [List.map_cons, List.map_nil]; rw [byt_toNat (by omega), byt_toNat (by omega), byt_toNat (by omega), byt_toNat (by omega)]; try simp) 9 Tryd.underlying9
  rw [hm] at hcv
  clear hm
  simp only [List.map_cons, List.map_nil, List.length_cons, List.length_nil, Nat.zero_add, Nat.reduceAdd] at hcv
  have b1 : bits .or .i64 240 (r / 262144) = 240 + r / 262144 := bor 3 (by omega) (by decide) (by decide) (by omega) (by omega) (by omega)
  have b2 : bits .and .i64 (r / 4096) 63 = r / 4096 % 64 := band 6 (by decide) (by omega) (by omega)
  have b3 : bits .or .i64 128 (r / 4096 % 64) = 128 + r / 4096 % 64 := bor 6 (by omega) (by decide) (by decide) (by omega) (by omega) (by omega)
  have b4 : bits .and .i64 (r / 64) 63 = r / 64 % 64 := band 6 (by decide) (by omega) (by omega)
  have b5 : bits .or .i64 128 (r / 64 % 64) = 128 + r / 64 % 64 := bor 6 (by omega) (by decide) (by decide) (by omega) (by omega) (by omega)
  have b6 : bits .and .i64 (r) 63 = r % 64 := band 6 (by decide) (by omega) (by omega)
  have b7 : bits .or .i64 128 (r % 64) = 128 + r % 64 := bor 6 (by omega) (by decide) (by decide) (by omega) (by omega) (by omega)
  generalize (⟨#[byt (240 + m / 262144), byt (128 + m / 4096 % 64), byt (128 + m / 64 % 64), byt (128 + m % 64)]⟩ : ByteArray) = R at *
  go_enter Tryd.func36, Tryd.ntmps36
  go_wp2_with (go_at_call 41; (with_reducible refine (char_t _ _ HC.out).mono ?_); rintro e w' ⟨rfl, rfl⟩)
  go_ret2
  exact ⟨by rw [HE.out]; rfl, (Below.refl _ _).alloc (Nat.le_refl _) _⟩
theorem rencode_t (r : Int) (w : World) (h : isC r = true) : Calls Tryd.prog 36 #[.int .i64 r] w fun e w' => e = .returned (.tuple #[.string (encS r.toNat), .int .i64 0]) ∧ Below w.heap.size w w' := by
  by_cases h1 : r < 128
  · exact rencode_1 r w h h1
  by_cases h2 : r < 2048
  · exact rencode_2 r w h (by omega) h2
  by_cases h3 : r < 65536
  · exact rencode_3 r w h (by omega) h3
  exact rencode_4 r w h (by omega)
theorem rencode_f (r : Int) (w : World) (h : isC r = false) : Calls Tryd.prog 36 #[.int .i64 r] w fun e w' => e = .returned (.tuple #[.string ⟨#[]⟩, .int .i64 2]) ∧ w = w' := by
  have HC := Lib.hid h
  clear h
  go_enter Tryd.func36, Tryd.ntmps36
  go_wp2_with (go_at_call 41; (with_reducible refine (char_f _ _ HC.out).mono ?_); rintro e w' ⟨rfl, rfl⟩)
  go_ret2
  exact ⟨rfl, rfl⟩
end Go.Proofs.YtiodnncpgdiejaaDoor.Utf
