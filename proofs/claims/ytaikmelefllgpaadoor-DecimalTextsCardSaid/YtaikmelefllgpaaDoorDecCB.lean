/-
  Package decimal: Text at any decimal.
-/
import Derived.Test.YtaikmelefllgpaaDoorDecCA
import Derived.Test.YtaikmelefllgpaaDoorDecE
import Derived.BigQuiet
namespace Go.Proofs.YtaikmelefllgpaaDoor.Dec
open Go.RowKit
set_option linter.unusedVariables false
set_option linter.unusedSimpArgs false
open Go.Proofs.YtaikmelefllgpaaDoor.Dig

set_option maxRecDepth 100000 in
set_option maxHeartbeats 4000000 in
theorem abs_1 (A : ByteArray) (x p : Int) (w : World) (hp : (A.size : Int) + x = p) (hA : 1 ≤ A.size) (hA2 : A.size ≤ 120) (hx : -400 ≤ x ∧ x ≤ 400) (h1 : 0 ≤ x) (h2 : p ≤ 21) (Z R : ByteArray) (HR : Hid (∀ w, Calls Tryd.prog 51 #[.string ⟨#[48]⟩, .int .i64 x] w fun e w' => e = .returned (.string Z) ∧ Below w.heap.size w w')) (cc1 : A ++ Z = R) (uu1 : A.size + Z.size ≤ 9223372036854775807) : Calls Tryd.prog 42 #[.string A, .int .i64 x] w fun e w' => e = .returned (.string R) ∧ Below w.heap.size w w' := by
  have wp : IntKind.i64.wrap ((A.size : Int) + x) = p := by rw [hp]; exact IntWalk.i64_in _ (by omega)
  have b1 : decide ((0 : Int) ≤ x) = true := decide_eq_true (by omega)
  have b2 : decide (p ≤ 21) = true := decide_eq_true (by omega)
  have vv1 : ¬ 9223372036854775807 < A.size + Z.size := by omega
  clear hp hA hA2 hx h1 h2
  go_enter Tryd.func42, Tryd.ntmps42
  go_wp2_with (go_at_call 51; (with_reducible refine (HR.out _).mono ?_); rintro e w1 ⟨rfl, hb⟩)
  go_ret
  exact ⟨rfl, hb⟩
set_option maxRecDepth 100000 in
set_option maxHeartbeats 4000000 in
theorem abs_2 (A : ByteArray) (x p : Int) (w : World) (hp : (A.size : Int) + x = p) (hA : 1 ≤ A.size) (hA2 : A.size ≤ 120) (hx : -400 ≤ x ∧ x ≤ 400) (h1 : x < 0) (k : Nat) (hk : p = (k : Int)) (h2 : 1 ≤ k) (h3 : k ≤ 21) (A1 A2 B1 R : ByteArray) (ha1 : A.extract 0 k = A1) (ha2 : A.extract k A.size = A2) (cc2 : A1 ++ ⟨#[46]⟩ = B1) (uu2 : A1.size + 1 ≤ 9223372036854775807) (cc3 : B1 ++ A2 = R) (uu3 : B1.size + A2.size ≤ 9223372036854775807) : Calls Tryd.prog 42 #[.string A, .int .i64 x] w fun e w' => e = .returned (.string R) ∧ Below w.heap.size w w' := by
  subst hk
  have wp : IntKind.i64.wrap ((A.size : Int) + x) = (k : Int) := by rw [hp]; exact IntWalk.i64_in _ (by omega)
  have b1 : decide ((0 : Int) ≤ x) = false := decide_eq_false (by omega)
  have b2 : decide (x < 0) = true := decide_eq_true (by omega)
  have b3 : decide ((1 : Int) ≤ (k : Int)) = true := decide_eq_true (by omega)
  have b4 : decide ((k : Int) ≤ 21) = true := decide_eq_true (by omega)
  have b5 : (k : Int) ≤ A.size := by omega
  have b6 : (0 : Int) ≤ k := by omega
  have vv2 : ¬ 9223372036854775807 < A1.size + 1 := by omega
  have vv3 : ¬ 9223372036854775807 < B1.size + A2.size := by omega
  clear hp hA hA2 hx h1 h2 h3
  go_enter Tryd.func42, Tryd.ntmps42
  go_wp2
  go_big_quiet (fail)
  go_wp2
  go_ret
  exact ⟨rfl, (Below.refl _ _).trans ⟨rfl, rfl, rfl, Nat.le_refl _, fun _ _ => rfl⟩⟩
set_option maxRecDepth 100000 in
set_option maxHeartbeats 4000000 in
theorem abs_3 (A : ByteArray) (x p : Int) (w : World) (hp : (A.size : Int) + x = p) (hA : 1 ≤ A.size) (hA2 : A.size ≤ 120) (hx : -400 ≤ x ∧ x ≤ 400) (k : Nat) (hk : p = -(k : Int)) (h2 : k ≤ 5) (Z B1 R : ByteArray) (HR : Hid (∀ w, Calls Tryd.prog 51 #[.string ⟨#[48]⟩, .int .i64 k] w fun e w' => e = .returned (.string Z) ∧ Below w.heap.size w w')) (cc4 : ⟨#[48, 46]⟩ ++ Z = B1) (uu4 : 2 + Z.size ≤ 9223372036854775807) (cc5 : B1 ++ A = R) (uu5 : B1.size + A.size ≤ 9223372036854775807) : Calls Tryd.prog 42 #[.string A, .int .i64 x] w fun e w' => e = .returned (.string R) ∧ Below w.heap.size w w' := by
  have wp : IntKind.i64.wrap ((A.size : Int) + x) = p := by rw [hp]; exact IntWalk.i64_in _ (by omega)
  have b1 : decide ((0 : Int) ≤ x) = false := decide_eq_false (by omega)
  have b2 : decide (x < 0) = true := decide_eq_true (by omega)
  have b3 : decide ((1 : Int) ≤ p) = false := decide_eq_false (by omega)
  have b4 : decide ((-5 : Int) ≤ p) = true := decide_eq_true (by omega)
  have b5 : decide (p ≤ 0) = true := decide_eq_true (by omega)
  have b6 : IntKind.i64.wrap (-p) = (k : Int) := by rw [show -p = (k : Int) by omega]; exact IntWalk.i64_in _ (by omega)
  have vv4 : ¬ 9223372036854775807 < 2 + Z.size := by omega
  have vv5 : ¬ 9223372036854775807 < B1.size + A.size := by omega
  clear hp hA hA2 hx h2 hk
  go_enter Tryd.func42, Tryd.ntmps42
  go_wp2_with (go_at_call 51; (with_reducible refine (HR.out _).mono ?_); rintro e w1 ⟨rfl, hb⟩)
  go_ret
  exact ⟨rfl, hb⟩
set_option maxRecDepth 100000 in
set_option maxHeartbeats 4000000 in
theorem abs_4s (A : ByteArray) (x p : Int) (w : World) (hp : (A.size : Int) + x = p) (hA : 1 ≤ A.size) (hA2 : A.size ≤ 120) (hx : -400 ≤ x ∧ x ≤ 400) (q : Int) (hq : p - 1 = q) (A1 M B3 T R : ByteArray) (ha1 : A.extract 0 1 = A1) (hL : A.size = 1) (hM : A1 = M)   (cc6 : M ++ ⟨#[101]⟩ = B3) (uu6 : M.size + 1 ≤ 9223372036854775807) (cc7 : B3 ++ T = R) (uu7 : B3.size + T.size ≤ 9223372036854775807) (HI : Hid (∀ w' : World, Below w.heap.size w w' → Calls Tryd.prog 60 #[.int .i64 q] w' fun e w'' => e = .returned (.string T) ∧ Below w'.heap.size w' w'')) (hc : (0 ≤ x ∧ 21 < p) ∨ (x < 0 ∧ 21 < p) ∨ (x < 0 ∧ p < -5)) : Calls Tryd.prog 42 #[.string A, .int .i64 x] w fun e w' => e = .returned (.string R) ∧ Below w.heap.size w w' := by
  have wp : IntKind.i64.wrap ((A.size : Int) + x) = p := by rw [hp]; exact IntWalk.i64_in _ (by omega)
  have wq : IntKind.i64.wrap (p - 1) = q := by rw [hq]; exact IntWalk.i64_in _ (by omega)
  have b0 : (1 : Int) ≤ A.size := by omega
  have b9 : decide ((1 : Int) < (A.size : Int)) = false := decide_eq_false (by omega)
  have vv6 : ¬ 9223372036854775807 < M.size + 1 := by omega
  have vv7 : ¬ 9223372036854775807 < B3.size + T.size := by omega
  subst hM
  have b0n : 1 ≤ A.size := hA
  have HB0 := Lib.hid (Below.refl w.heap.size w)
  rcases hc with ⟨h1, h2⟩ | ⟨h1, h2⟩ | ⟨h1, h2⟩
  · have b1 : decide ((0 : Int) ≤ x) = true := decide_eq_true (by omega)
    have b2 : decide (p ≤ 21) = false := decide_eq_false (by omega)
    have b3 : decide (x < 0) = false := decide_eq_false (by omega)
    have b6 : decide ((-5 : Int) ≤ p) = true := decide_eq_true (by omega)
    have b7 : decide (p ≤ 0) = false := decide_eq_false (by omega)
    clear hp hA hA2 hx h1 h2 hq hL
    go_enter Tryd.func42, Tryd.ntmps42
    go_wp2_with (go_at_call 60; (with_reducible refine (HI.out _ HB0.out).mono ?_); rintro e w1 ⟨rfl, hb⟩)
    go_ret
    exact ⟨rfl, hb⟩
  · have b1 : decide ((0 : Int) ≤ x) = false := decide_eq_false (by omega)
    have b3 : decide (x < 0) = true := decide_eq_true (by omega)
    have b4 : decide ((1 : Int) ≤ p) = true := decide_eq_true (by omega)
    have b5 : decide (p ≤ 21) = false := decide_eq_false (by omega)
    have b6 : decide ((-5 : Int) ≤ p) = true := decide_eq_true (by omega)
    have b7 : decide (p ≤ 0) = false := decide_eq_false (by omega)
    clear hp hA hA2 hx h1 h2 hq hL
    go_enter Tryd.func42, Tryd.ntmps42
    go_wp2_with (go_at_call 60; (with_reducible refine (HI.out _ HB0.out).mono ?_); rintro e w1 ⟨rfl, hb⟩)
    go_ret
    exact ⟨rfl, hb⟩
  · have b1 : decide ((0 : Int) ≤ x) = false := decide_eq_false (by omega)
    have b3 : decide (x < 0) = true := decide_eq_true (by omega)
    have b4 : decide ((1 : Int) ≤ p) = false := decide_eq_false (by omega)
    have b6 : decide ((-5 : Int) ≤ p) = false := decide_eq_false (by omega)
    clear hp hA hA2 hx h1 h2 hq hL
    go_enter Tryd.func42, Tryd.ntmps42
    go_wp2_with (go_at_call 60; (with_reducible refine (HI.out _ HB0.out).mono ?_); rintro e w1 ⟨rfl, hb⟩)
    go_ret
    exact ⟨rfl, hb⟩
set_option maxRecDepth 100000 in
set_option maxHeartbeats 4000000 in
theorem abs_4l (A : ByteArray) (x p : Int) (w : World) (hp : (A.size : Int) + x = p) (hA : 1 ≤ A.size) (hA2 : A.size ≤ 120) (hx : -400 ≤ x ∧ x ≤ 400) (q : Int) (hq : p - 1 = q) (A1 M B3 T R : ByteArray) (ha1 : A.extract 0 1 = A1) (hL : 1 < A.size) (A2 B1 : ByteArray) (ha2 : A.extract 1 A.size = A2) (cc8 : ⟨#[46]⟩ ++ A2 = B1) (uu8 : 1 + A2.size ≤ 9223372036854775807) (cc9 : A1 ++ B1 = M) (uu9 : A1.size + B1.size ≤ 9223372036854775807) (cc10 : M ++ ⟨#[101]⟩ = B3) (uu10 : M.size + 1 ≤ 9223372036854775807) (cc11 : B3 ++ T = R) (uu11 : B3.size + T.size ≤ 9223372036854775807) (HI : Hid (∀ w' : World, Below w.heap.size w w' → Calls Tryd.prog 60 #[.int .i64 q] w' fun e w'' => e = .returned (.string T) ∧ Below w'.heap.size w' w'')) (hc : (0 ≤ x ∧ 21 < p) ∨ (x < 0 ∧ 21 < p) ∨ (x < 0 ∧ p < -5)) : Calls Tryd.prog 42 #[.string A, .int .i64 x] w fun e w' => e = .returned (.string R) ∧ Below w.heap.size w w' := by
  have wp : IntKind.i64.wrap ((A.size : Int) + x) = p := by rw [hp]; exact IntWalk.i64_in _ (by omega)
  have wq : IntKind.i64.wrap (p - 1) = q := by rw [hq]; exact IntWalk.i64_in _ (by omega)
  have b0 : (1 : Int) ≤ A.size := by omega
  have b9 : decide ((1 : Int) < (A.size : Int)) = true := decide_eq_true (by omega)
  have vv8 : ¬ 9223372036854775807 < 1 + A2.size := by omega
  have vv9 : ¬ 9223372036854775807 < A1.size + B1.size := by omega
  have vv10 : ¬ 9223372036854775807 < M.size + 1 := by omega
  have vv11 : ¬ 9223372036854775807 < B3.size + T.size := by omega
  have b0n : 1 ≤ A.size := hA
  have HB0 := Lib.hid (Below.refl w.heap.size w)
  rcases hc with ⟨h1, h2⟩ | ⟨h1, h2⟩ | ⟨h1, h2⟩
  · have b1 : decide ((0 : Int) ≤ x) = true := decide_eq_true (by omega)
    have b2 : decide (p ≤ 21) = false := decide_eq_false (by omega)
    have b3 : decide (x < 0) = false := decide_eq_false (by omega)
    have b6 : decide ((-5 : Int) ≤ p) = true := decide_eq_true (by omega)
    have b7 : decide (p ≤ 0) = false := decide_eq_false (by omega)
    clear hp hA hA2 hx h1 h2 hq hL
    go_enter Tryd.func42, Tryd.ntmps42
    go_wp2_with (go_at_call 60; (with_reducible refine (HI.out _ HB0.out).mono ?_); rintro e w1 ⟨rfl, hb⟩)
    go_ret
    exact ⟨rfl, hb⟩
  · have b1 : decide ((0 : Int) ≤ x) = false := decide_eq_false (by omega)
    have b3 : decide (x < 0) = true := decide_eq_true (by omega)
    have b4 : decide ((1 : Int) ≤ p) = true := decide_eq_true (by omega)
    have b5 : decide (p ≤ 21) = false := decide_eq_false (by omega)
    have b6 : decide ((-5 : Int) ≤ p) = true := decide_eq_true (by omega)
    have b7 : decide (p ≤ 0) = false := decide_eq_false (by omega)
    clear hp hA hA2 hx h1 h2 hq hL
    go_enter Tryd.func42, Tryd.ntmps42
    go_wp2_with (go_at_call 60; (with_reducible refine (HI.out _ HB0.out).mono ?_); rintro e w1 ⟨rfl, hb⟩)
    go_ret
    exact ⟨rfl, hb⟩
  · have b1 : decide ((0 : Int) ≤ x) = false := decide_eq_false (by omega)
    have b3 : decide (x < 0) = true := decide_eq_true (by omega)
    have b4 : decide ((1 : Int) ≤ p) = false := decide_eq_false (by omega)
    have b6 : decide ((-5 : Int) ≤ p) = false := decide_eq_false (by omega)
    clear hp hA hA2 hx h1 h2 hq hL
    go_enter Tryd.func42, Tryd.ntmps42
    go_wp2_with (go_at_call 60; (with_reducible refine (HI.out _ HB0.out).mono ?_); rintro e w1 ⟨rfl, hb⟩)
    go_ret
    exact ⟨rfl, hb⟩
theorem S_ext0 (n k : Nat) : ((S n).extract 0 k).data.toList = (num n).take k := ex0_list _ _
theorem S_extk (n k : Nat) : ((S n).extract k (S n).size).data.toList = (num n).drop k := ex_from _ _
theorem cat_list (a b : ByteArray) : (a ++ b).data.toList = a.data.toList ++ b.data.toList := by rw [ByteArray.data_append, Array.toList_append]
def absS (n : Nat) (x : Int) : ByteArray := ⟨(absL n x).toArray⟩
theorem of_list {a : ByteArray} {l : List UInt8} (h : a.data.toList = l) : a = ⟨l.toArray⟩ := ba_ext h
theorem itoa_len (q : Int) (hq : q ≠ 0) (hb : -1000 ≤ q ∧ q ≤ 1000) : (Lib.itoa q).length ≤ 5 := by
  have h4 : (10 : Nat) ^ 4 = 10000 := by decide
  have : (num q.natAbs).length ≤ 4 := num_len.2 (by rw [h4]; omega)
  rw [itoa_num hq]
  split
  · rw [List.length_cons]; omega
  · omega
theorem absText_any (n : Nat) (x : Int) (w : World) (hn : 0 < n) (hl : (num n).length ≤ 120) (hx : -400 ≤ x ∧ x ≤ 400) (ht : ∀ w' : World, Below w.heap.size w w' → Lib.TabIs Tryd.prog w' "internal/strconv.uint64pow10" .u64 Lib.pow10Tab) : Calls Tryd.prog 42 #[.string (S n), .int .i64 x] w fun e w' => e = .returned (.string (absS n x)) ∧ Below w.heap.size w w' := by
  have hz : (S n).size = (num n).length := S_size n
  have hpos : 1 ≤ (S n).size := by have := S_pos hn; omega
  have hl2 : (S n).size ≤ 120 := by omega
  have hnil : ∀ (a b : List UInt8), (⟨a.toArray⟩ : ByteArray) ++ ⟨b.toArray⟩ = ⟨(a ++ b).toArray⟩ := fun a b => of_list (by rw [cat_list])
  by_cases h1 : 0 ≤ x ∧ ((num n).length : Int) + x ≤ 21
  · obtain ⟨k, rfl⟩ := Int.eq_ofNat_of_zero_le h1.1
    have e : absS n (k : Int) = S n ++ noughts k := by
      refine (of_list ?_).symm
      rw [cat_list]
      unfold absL
      rw [if_pos h1]; rfl
    rw [e]
    exact abs_1 _ _ _ w rfl hpos hl2 hx h1.1 (by omega) (noughts k) _ (Lib.hid fun w => repeat_any k w (by omega)) rfl (by rw [noughts_size]; omega)
  · by_cases h2 : x < 0 ∧ 1 ≤ ((num n).length : Int) + x ∧ ((num n).length : Int) + x ≤ 21
    · obtain ⟨k, hk⟩ := Int.eq_ofNat_of_zero_le (show 0 ≤ ((num n).length : Int) + x by omega)
      have e : absS n x = (S n).extract 0 k ++ ⟨#[46]⟩ ++ (S n).extract k (S n).size := by
        refine (of_list ?_).symm
        rw [cat_list, cat_list, S_ext0, S_extk]
        unfold absL
        rw [if_neg h1, if_pos h2, show (((num n).length : Int) + x).toNat = k by omega, List.append_assoc]; rfl
      rw [e]
      have s1 : ((S n).extract 0 k).size ≤ 120 := by rw [ByteArray.size_extract]; omega
      have s2 : ((S n).extract k (S n).size).size ≤ 120 := by rw [ByteArray.size_extract]; omega
      exact abs_2 _ _ _ w rfl hpos hl2 hx h2.1 k (by omega) (by omega) (by omega) _ _ _ _ rfl rfl rfl (by omega) rfl (by rw [ByteArray.size_append]; show _ + 1 + _ ≤ _; omega)
    · by_cases h3 : -5 ≤ ((num n).length : Int) + x ∧ ((num n).length : Int) + x ≤ 0
      · obtain ⟨k, hk⟩ := Int.eq_ofNat_of_zero_le (show 0 ≤ -(((num n).length : Int) + x) by omega)
        have e : absS n x = ⟨#[48, 46]⟩ ++ noughts k ++ S n := by
          refine (of_list ?_).symm
          rw [cat_list, cat_list]
          unfold absL
          rw [if_neg h1, if_neg h2, if_pos h3, show (-(((num n).length : Int) + x)).toNat = k by omega, List.append_assoc]; rfl
        rw [e]
        exact abs_3 _ _ _ w rfl hpos hl2 hx k (by omega) (by omega) (noughts k) _ _ (Lib.hid fun w => repeat_any k w (by omega)) rfl (by rw [noughts_size]; omega) rfl (by rw [ByteArray.size_append, noughts_size]; show 2 + _ + _ ≤ _; omega)
      · obtain ⟨q, hq⟩ : ∃ q : Int, ((num n).length : Int) + x - 1 = q := ⟨_, rfl⟩
        have hq0 : q ≠ 0 := by omega
        have hil := itoa_len q hq0 (by omega)
        have HI : Hid (∀ w' : World, Below w.heap.size w w' → Calls Tryd.prog 60 #[.int .i64 q] w' fun e w'' => e = .returned (.string ⟨(Lib.itoa q).toArray⟩) ∧ Below w'.heap.size w' w'') := Lib.hid (fun w' hb => (Tryd.strconv_Itoa q (by omega) (by omega) w' (ht w' hb)).mono fun _ _ ⟨he, k, os, hw⟩ => ⟨he, by rw [hw]; exact Lib.below_grow _ _ (Nat.le_refl _) _ _⟩)
        have hits : (⟨(Lib.itoa q).toArray⟩ : ByteArray).size ≤ 5 := by simpa [ByteArray.size] using hil
        have s1 : ((S n).extract 0 1).size ≤ 120 := by rw [ByteArray.size_extract]; omega
        by_cases hL : 1 < (S n).size
        · have e : absS n x = (S n).extract 0 1 ++ (⟨#[46]⟩ ++ (S n).extract 1 (S n).size) ++ ⟨#[101]⟩ ++ ⟨(Lib.itoa q).toArray⟩ := by
            refine (of_list ?_).symm
            rw [cat_list, cat_list, cat_list, cat_list, S_ext0, S_extk]
            unfold absL
            rw [if_neg h1, if_neg h2, if_neg h3, hq, if_pos (by omega), List.append_assoc, List.append_assoc]; rfl
          rw [e]
          have s2 : ((S n).extract 1 (S n).size).size ≤ 120 := by rw [ByteArray.size_extract]; omega
          have t1 : (⟨#[46]⟩ ++ (S n).extract 1 (S n).size : ByteArray).size ≤ 121 := by rw [ByteArray.size_append]; show 1 + _ ≤ _; omega
          have t2 : ((S n).extract 0 1 ++ (⟨#[46]⟩ ++ (S n).extract 1 (S n).size)).size ≤ 241 := by rw [ByteArray.size_append]; omega
          have t3 : ((S n).extract 0 1 ++ (⟨#[46]⟩ ++ (S n).extract 1 (S n).size) ++ ⟨#[101]⟩).size ≤ 242 := by rw [ByteArray.size_append]; show _ + 1 ≤ _; omega
          exact abs_4l _ _ _ w rfl hpos hl2 hx q (by omega) _ _ _ _ _ rfl hL _ _ rfl rfl (by omega) rfl (by omega) rfl (by omega) rfl (by omega) HI (by omega)
        · have e : absS n x = (S n).extract 0 1 ++ ⟨#[101]⟩ ++ ⟨(Lib.itoa q).toArray⟩ := by
            refine (of_list ?_).symm
            rw [cat_list, cat_list, S_ext0]
            unfold absL
            rw [if_neg h1, if_neg h2, if_neg h3, hq, if_neg (by omega), List.append_assoc]; rfl
          rw [e]
          have t3 : ((S n).extract 0 1 ++ ⟨#[101]⟩ : ByteArray).size ≤ 242 := by rw [ByteArray.size_append]; show _ + 1 ≤ _; omega
          exact abs_4s _ _ _ w rfl hpos hl2 hx q (by omega) _ _ _ _ _ rfl (by omega) rfl rfl (by omega) rfl (by omega) HI (by omega)
theorem absL_len {n : Nat} {x : Int} (hl : (num n).length ≤ 120) (hx : -400 ≤ x ∧ x ≤ 400) : (absL n x).length ≤ 1000 := by
  unfold absL
  split
  · rw [List.length_append, List.length_replicate]; omega
  · split
    · rw [List.length_append, List.length_cons, List.length_take, List.length_drop]; omega
    · split
      · rw [List.length_cons, List.length_cons, List.length_append, List.length_replicate]; omega
      · have hq : ((num n).length : Int) + x - 1 ≠ 0 := by omega
        have := itoa_len _ hq (by omega)
        rw [List.length_append, List.length_append, List.length_cons, List.length_take]
        split
        · rw [List.length_cons, List.length_drop]; omega
        · simp only [List.length_nil]; omega
def textS (g : Bool) (n : Nat) (x : Int) : ByteArray := ⟨(textL g n x).toArray⟩
set_option maxRecDepth 100000 in
set_option maxHeartbeats 4000000 in
theorem text_zero (g : Bool) (n : Nat) (x : Int) (w : World) (h : okD g n x) (hn : n = 0) : Calls Tryd.prog 16 #[.agg #[.bool g, .string (S n), .int .i64 x]] w fun e w' => e = .returned (.string (textS g n x)) ∧ Below w.heap.size w w' := by
  have HV := Lib.hid (fun w => dvalid_ok w h)
  have hT : textS g n x = ⟨#[48]⟩ := by subst hn; rfl
  rw [hT]
  subst hn
  have HC := Lib.hid (DC.new w g (S 0) x)
  have e1 : (S 0).toList.isEmpty = true := by rw [ByteArray.toList_eq]; rfl
  have e2 : (S 0).toList = [] := by rw [ByteArray.toList_eq]; rfl
  obtain ⟨s, hS⟩ : ∃ s, S 0 = s := ⟨_, rfl⟩
  rw [hS] at HV HC e1 e2 ⊢
  clear hS hT h
  have b0 : Below w.heap.size w (w.alloc (.cells #[.bool g, .string s, .int .i64 x] 23)) := (Below.refl _ _).alloc (Nat.le_refl _) _
  go_enter Tryd.func16, Tryd.ntmps16
  go_wp2_with (go_at_call 22; (with_reducible refine (HV.out _).mono ?_); rintro e w1 ⟨rfl, hb⟩; have X := HC.out.below hb HC.out.lt; obtain ⟨x0, x1, x2⟩ := X.cells; have b1 := b0.trans (hb.mono b0.size); clear hb)
  go_ret
  exact ⟨rfl, b1⟩
set_option maxRecDepth 100000 in
set_option maxHeartbeats 4000000 in
theorem text_pos (g : Bool) (n : Nat) (x : Int) (w : World) (h : okD g n x) (hn : 0 < n) (ht : ∀ w' : World, Below w.heap.size w w' → Lib.TabIs Tryd.prog w' "internal/strconv.uint64pow10" .u64 Lib.pow10Tab) : Calls Tryd.prog 16 #[.agg #[.bool g, .string (S n), .int .i64 x]] w fun e w' => e = .returned (.string (textS g n x)) ∧ Below w.heap.size w w' := by
  have HV := Lib.hid (fun w => dvalid_ok w h)
  obtain ⟨hl, hx⟩ : (num n).length ≤ 120 ∧ -400 ≤ x ∧ x ≤ 400 := by
    rcases h with ⟨h1, -⟩ | ⟨-, -, a, b, c⟩
    · omega
    · exact ⟨a, b, c⟩
  have HA : Hid (∀ w' : World, Below w.heap.size w w' → Calls Tryd.prog 42 #[.string (S n), .int .i64 x] w' fun e w'' => e = .returned (.string (absS n x)) ∧ Below w'.heap.size w' w'') := Lib.hid (fun w' hb => absText_any n x w' hn hl hx (fun w'' hb' => ht w'' (hb.trans (hb'.mono hb.size))))
  have hsz : (absS n x).size ≤ 9000000 := by
    show (absL n x).toArray.size ≤ _
    have h2 := absL_len hl hx (n := n) (x := x)
    have h3 : (absL n x).toArray.size = (absL n x).length := by simp
    omega
  have hT : textS g n x = if g then ⟨#[45]⟩ ++ absS n x else absS n x := by
    unfold textS textL
    rw [if_neg (by omega)]
    cases g
    · rfl
    · exact (of_list (by rw [if_pos rfl, if_pos rfl, cat_list]; rfl)).symm
  have HC := Lib.hid (DC.new w g (S n) x)
  have e1 := tl_ne (S_pos hn)
  have e2 := tl_ne' (S_pos hn)
  obtain ⟨s, hS⟩ : ∃ s, S n = s := ⟨_, rfl⟩
  obtain ⟨a, hAa⟩ : ∃ s, absS n x = s := ⟨_, rfl⟩
  rw [hT]
  rw [hS] at HV HC e1 e2 HA ⊢
  rw [hAa] at HA hsz ⊢
  clear hS hAa hT h ht hl
  have b0 : Below w.heap.size w (w.alloc (.cells #[.bool g, .string s, .int .i64 x] 23)) := (Below.refl _ _).alloc (Nat.le_refl _) _
  have u1 : ¬ 9223372036854775807 < 1 + a.size := by omega
  have u2 : 1 + a.size ≤ 9223372036854775807 := by omega
  clear hsz
  cases g
  · go_enter Tryd.func16, Tryd.ntmps16
    go_wp2_with (first | (go_at_call 22; (with_reducible refine (HV.out _).mono ?_); rintro e w1 ⟨rfl, hb⟩; have X := HC.out.below hb HC.out.lt; obtain ⟨x0, x1, x2⟩ := X.cells; have b1 := b0.trans (hb.mono b0.size); clear hb) | (go_at_call 42; (with_reducible refine (HA.out _ b1).mono ?_); rintro e w2 ⟨rfl, hb⟩; have X := X.below hb X.lt; obtain ⟨x0, x1, x2⟩ := X.cells; have b2 := b1.trans (hb.mono b1.size); clear hb))
    go_ret
    exact ⟨rfl, b2⟩
  · go_enter Tryd.func16, Tryd.ntmps16
    go_wp2_with (first | (go_at_call 22; (with_reducible refine (HV.out _).mono ?_); rintro e w1 ⟨rfl, hb⟩; have X := HC.out.below hb HC.out.lt; obtain ⟨x0, x1, x2⟩ := X.cells; have b1 := b0.trans (hb.mono b0.size); clear hb) | (go_at_call 42; (with_reducible refine (HA.out _ b1).mono ?_); rintro e w2 ⟨rfl, hb⟩; have X := X.below hb X.lt; obtain ⟨x0, x1, x2⟩ := X.cells; have b2 := b1.trans (hb.mono b1.size); clear hb))
    go_ret
    exact ⟨rfl, b2⟩
end Go.Proofs.YtaikmelefllgpaaDoor.Dec
