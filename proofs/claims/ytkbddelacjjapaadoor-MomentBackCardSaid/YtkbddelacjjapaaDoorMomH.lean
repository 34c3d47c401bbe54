/-
  Package moment: padded numbers.
-/
import Derived.Test.YtkbddelacjjapaaDoorMomG
import Derived.Test.YtkbddelacjjapaaDoorShelf
import Derived.Lib.ItoaNum
import Derived.Lib.AppendIntMem
import Derived.Lib.LaidU8
import Derived.Lib.LaidTab
import Derived.Lib.SmallJoins
namespace Go.Proofs.YtkbddelacjjapaaDoor.Mom
open Go.RowKit
set_option linter.unusedVariables false
set_option linter.unusedSimpArgs false

/-- The table of the powers of ten that the library's Itoa reads. -/
def Tb (w : World) : Prop := Lib.TabIs Tryd.prog w "internal/strconv.uint64pow10" .u64 Lib.pow10Tab
theorem Tb.next {w w' : World} (h : Tb w) (hb : Below w.heap.size w w') : Tb w' :=
  Joins.tab_stays (g := 2) (by kernel_rfl) h hb (Nat.le_refl _)
/-- The last digits of a number. -/
def pd : Nat → Nat → List UInt8
  | 0, _ => []
  | k + 1, n => pd k (n / 10) ++ [UInt8.ofNat (48 + n % 10)]
def pdS (k n : Nat) : ByteArray := ⟨(pd k n).toArray⟩
theorem pd_len : ∀ (k n : Nat), (pd k n).length = k := by
  intro k
  induction k with
  | zero => intro n; rfl
  | succ k ih => intro n; unfold pd; rw [List.length_append, ih]; rfl
theorem pdS_size (k n : Nat) : (pdS k n).size = k := by
  show (pd k n).toArray.size = k
  simp [pd_len]
theorem pd_zero : ∀ (k : Nat), pd k 0 = List.replicate k 48 := by
  intro k
  induction k with
  | zero => rfl
  | succ k ih => unfold pd; rw [show 0 / 10 = 0 by omega, ih, List.replicate_succ']; rfl
theorem pd_dec : ∀ (k n : Nat), 0 < k → n < 10 ^ k → (Lib.decDigits n).length ≤ k ∧ List.replicate (k - (Lib.decDigits n).length) 48 ++ Lib.decDigits n = pd k n := by
  intro k
  induction k with
  | zero => intro n h; omega
  | succ k ih =>
    intro n _ hn
    rw [Lib.decDigits]
    unfold pd
    by_cases h : n < 10
    · rw [dif_pos h, show n / 10 = 0 by omega, pd_zero, Nat.mod_eq_of_lt h]
      exact ⟨by simp, rfl⟩
    · rw [dif_neg h]
      have hk : 0 < k := by
        rcases Nat.eq_zero_or_pos k with e | e
        · subst e; simp at hn; omega
        · exact e
      obtain ⟨h1, h2⟩ := ih (n / 10) hk (by rw [Nat.pow_succ] at hn; omega)
      refine ⟨by rw [List.length_append]; simp; omega, ?_⟩
      rw [← h2, List.length_append]
      simp only [List.length_singleton]
      rw [show k + 1 - ((Lib.decDigits (n / 10)).length + 1) = k - (Lib.decDigits (n / 10)).length by omega, List.append_assoc]
theorem repeat_rep (k : Nat) : Lib.repeatL [48] k = List.replicate k 48 := by
  induction k with
  | zero => rfl
  | succ k ih => rw [Lib.repeatL, ih, List.replicate_succ]; rfl
theorem ba_app (a b : List UInt8) : (⟨a.toArray⟩ : ByteArray) ++ ⟨b.toArray⟩ = ⟨(a ++ b).toArray⟩ := by
  apply ba_ext'
  rw [ByteArray.data_append]
  simp
where
  ba_ext' {a b : ByteArray} (h : a.data = b.data) : a = b := by cases a; cases b; congr
theorem itoa_any (n : Nat) (w : World) (hn : n < 1000000000000) (ht : Tb w) : Calls Tryd.prog 41 #[.int .i64 n] w fun e w' => e = .returned (.string ⟨(Lib.decDigits n).toArray⟩) ∧ Below w.heap.size w w' :=
  (Tryd.strconv_Itoa n (by omega) (by omega) w ht).mono fun _ _ ⟨he, k, os, hw⟩ => ⟨by rw [he]; unfold Lib.itoa; rw [if_neg (by omega), Int.toNat_natCast], by rw [hw]; exact Lib.below_grow _ _ (Nat.le_refl _) _ _⟩
set_option maxHeartbeats 1000000 in
theorem padded_any (n k : Nat) (w : World) (hk : 0 < k) (hk9 : k ≤ 9) (hn : n < 10 ^ k) (ht : Tb w) : Calls Tryd.prog 31 #[.int .i64 n, .int .i64 k] w fun e w' => e = .returned (.string (pdS k n)) ∧ Below w.heap.size w w' := by
  obtain ⟨h1, h2⟩ := pd_dec k n hk hn
  have hn9 : n < 1000000000000 := Nat.lt_of_lt_of_le hn (Nat.le_trans (Nat.pow_le_pow_right (by omega) hk9) (by decide))
  have HI := Lib.hid (itoa_any n w hn9 ht)
  obtain ⟨m, hm⟩ : ∃ m, (Lib.decDigits n).length = m := ⟨_, rfl⟩
  obtain ⟨j, hj⟩ : ∃ j, k - m = j := ⟨_, rfl⟩
  have hs : (⟨(Lib.decDigits n).toArray⟩ : ByteArray).size = m := by
    show (Lib.decDigits n).toArray.size = m
    simp [hm]
  have HR := Lib.hid (fun w => Tryd.strings_Repeat ⟨#[48]⟩ j w (by omega) (by show 1 * j ≤ _; omega))
  have HX : Hid ((⟨(Lib.repeatL (⟨#[48]⟩ : ByteArray).data.toList j).toArray⟩ : ByteArray) ++ ⟨(Lib.decDigits n).toArray⟩ = pdS k n) := Lib.hid (by
    have : (⟨#[48]⟩ : ByteArray).data.toList = [48] := rfl
    rw [this, repeat_rep, ba_app, ← hj, ← hm, h2]; rfl)
  have hrs : (⟨(Lib.repeatL (⟨#[48]⟩ : ByteArray).data.toList j).toArray⟩ : ByteArray).size = j := by
    show (Lib.repeatL [48] j).toArray.size = j
    rw [repeat_rep]; simp
  generalize (⟨(Lib.repeatL (⟨#[48]⟩ : ByteArray).data.toList j).toArray⟩ : ByteArray) = O at *
  generalize (⟨(Lib.decDigits n).toArray⟩ : ByteArray) = A at *
  have hmk : m ≤ k := by omega
  have hmx : max 0 ((k : Int) - m) = (j : Int) := by omega
  clear h1 h2 hm hj hn hn9
  go_enter Tryd.func31, Tryd.ntmps31
  go_wp2_with (first | (go_at_call 41; go_loud ((with_reducible refine HI.out.mono ?_); rintro e w1 ⟨rfl, hb1⟩)) | (go_at_call 42; go_loud ((with_reducible refine (HR.out _).mono ?_); rintro e w2 ⟨rfl, hb2⟩)))
  go_ret
  exact ⟨ret_str HX.out, hb1.trans (hb2.mono hb1.size)⟩
end Go.Proofs.YtkbddelacjjapaaDoor.Mom
