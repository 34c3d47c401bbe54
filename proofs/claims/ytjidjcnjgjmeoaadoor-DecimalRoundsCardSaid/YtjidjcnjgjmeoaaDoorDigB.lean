/-
  Contracts of package digits and its reference: leading zeros, lengths, order.
-/
import Derived.Test.YtjidjcnjgjmeoaaDoorDigA
import Derived.Test.YtjidjcnjgjmeoaaDoorShelf
import Derived.Lib.Strings
import Derived.Sort.Walk0
namespace Go.Proofs.YtjidjcnjgjmeoaaDoor.Dig
open Go.RowKit
set_option linter.unusedVariables false
set_option linter.unusedSimpArgs false

theorem ba_ext {a b : ByteArray} (h : a.data.toList = b.data.toList) : a = b := by
  cases a; cases b; congr 1; exact Array.ext' h
theorem strip_dropWhile (l : List UInt8) : l.dropWhile (· == 48) = strip l := by
  induction l with
  | nil => rfl
  | cons c l ih =>
    unfold strip
    rw [List.dropWhile_cons]
    by_cases h : c = 48
    · simp [h, ih]
    · simp [h]
/-- The bytes are digits, and their value is n. -/
def Num (s : ByteArray) (n : Nat) : Prop := digs s.data.toList = true ∧ val s.data.toList = n
theorem Num.strip {s : ByteArray} {n : Nat} (h : Num s n) : Dig.strip s.data.toList = num n := by rw [strip_num h.1, h.2]
theorem Num_S (n : Nat) : Num (S n) n := ⟨num_digs n, val_num n⟩
theorem trimLeft_num (s : ByteArray) (n : Nat) (w : World) (h : Num s n) : Calls Tryd.prog 39 #[.string s, .string ⟨#[48]⟩] w fun e w' => e = .returned (.string (S n)) ∧ w = w' :=
  (Tryd.strings_TrimLeft_one s 48 (by decide) w).mono fun _ _ ⟨he, hw⟩ => ⟨by rw [he]; show Ending.returned (.string ⟨(s.data.toList.dropWhile (· == 48)).toArray⟩) = _; rw [strip_dropWhile, h.strip]; rfl, hw.symm⟩

theorem strip_stop {l : List UInt8} {k : Nat} (h : strip (l.drop k) = strip l) (hs : (l.drop k).head? ≠ some 48) : l.drop k = strip l := by rw [← h, strip_id hs]
theorem strip_go {l : List UInt8} {k : Nat} (hk : k < l.length) (h : strip (l.drop k) = strip l) (hs : l[k] = 48) : strip (l.drop (k + 1)) = strip l := by
  rw [← h, List.drop_eq_getElem_cons hk]
  conv => rhs; unfold strip
  rw [if_pos hs]
theorem ext_drop (s : ByteArray) (k : Nat) : (s.extract k s.size).data.toList = s.data.toList.drop k := by
  rw [Lib.extract_data, List.take_of_length_le]
  rw [List.length_drop, size_list]; omega
set_option maxHeartbeats 400000 in
theorem strip_any (s : ByteArray) (n : Nat) (w : World) (hs : s.size ≤ 9223372036854775807) (h : Num s n) : Calls Tryd.prog 22 #[.string s] w fun e w' => e = .returned (.string (S n)) ∧ w = w' := by
  have HN := Lib.hid h.strip
  clear h
  go_enter Tryd.func22, Tryd.ntmps22
  go_wp2
  go_loop [3] (fun i => ∃ k : Nat, k ≤ s.size ∧ i = .int .i64 k ∧ Hid (strip (s.data.toList.drop k) = strip s.data.toList)) (fun i => s.size - (intOf i).toNat)
  case atStart => exact ⟨0, Nat.zero_le _, rfl, rfl⟩
  case round =>
    obtain ⟨k, hk, rfl, hd⟩ := hrel
    by_cases hlt : k < s.size
    · by_cases h1 : (s[k].toNat : Int) = 48
      · have HB := Lib.hid (strip_go hlt hd.out (by apply UInt8.toNat_inj.1; show (s[k]).toNat = 48; omega))
        have h2 : ((s[k].toNat : Int) == 48) = true := by simpa using h1
        clear h1
        go_wp2
        go_round
        case rel => exact ⟨k + 1, by omega, by go_num, HB⟩
        case measure => simp [intOf]; omega
      · have HB := Lib.hid (strip_stop hd.out (by
          rw [List.head?_drop, List.getElem?_eq_getElem (by exact hlt)]
          intro e; injection e with e
          have : s[k] = 48 := e
          rw [this] at h1; exact h1 rfl))
        have h2 : ((s[k].toNat : Int) == 48) = false := by simpa using h1
        clear h1
        go_wp2
        go_ret
        exact ⟨ret_str (ba_ext (b := S n) ((ext_drop s k).trans (HB.out.trans HN.out))), rfl⟩
    · have HB := Lib.hid (strip_stop hd.out (by rw [List.drop_eq_nil_of_le (by rw [size_list]; omega)]; simp))
      go_wp2
      go_ret
      exact ⟨ret_str (ba_ext (b := S n) ((ext_drop s k).trans (HB.out.trans HN.out))), rfl⟩

/-- What is left of a result that is too long; its error. -/
def limS (n : Nat) : Nat := if (num n).length ≤ 600 then n else 0
def limE (n : Nat) : Int := if (num n).length ≤ 600 then 0 else 2
theorem limited_any (n : Nat) (w : World) (hs : (S n).size ≤ 9223372036854775807) : Calls Tryd.prog 42 #[.string (S n)] w fun e w' => e = .returned (.tuple #[.string (S (limS n)), .int .i64 (limE n)]) ∧ w = w' := by
  have hz := S_size n
  by_cases h : (num n).length ≤ 600
  · have e1 : Hid (limS n = n) := if_pos h
    have e2 : Hid (limE n = 0) := if_pos h
    rw [← hz] at h
    clear hz
    go_enter Tryd.func42, Tryd.ntmps42
    go_wp2
    go_ret2
    exact ⟨by rw [e1.out, e2.out]; rfl, rfl⟩
  · have e1 : Hid (limS n = 0) := if_neg h
    have e2 : Hid (limE n = 2) := if_neg h
    rw [← hz] at h
    clear hz
    go_enter Tryd.func42, Tryd.ntmps42
    go_wp2
    go_ret2
    exact ⟨by rw [e1.out, e2.out]; rfl, rfl⟩
def cmpN (x y : Nat) : Int := if x < y then -1 else if x = y then 0 else 1
theorem cmpN_lt {x y : Nat} (h : x < y) : cmpN x y = -1 := if_pos h
theorem cmpN_eq (x : Nat) : cmpN x x = 0 := by unfold cmpN; simp
theorem cmpN_gt {x y : Nat} (h : y < x) : cmpN x y = 1 := by unfold cmpN; rw [if_neg (by omega), if_neg (by omega)]
theorem compare_eq (a b : List UInt8) : Lib.compareBytes a b = if a < b then -1 else if a = b then 0 else 1 := by
  induction a generalizing b with
  | nil => cases b <;> simp [Lib.compareBytes]
  | cons x a ih =>
    cases b with
    | nil => simp [Lib.compareBytes]
    | cons y b =>
      have hlt : x < y ↔ x.toNat < y.toNat := UInt8.lt_iff_toNat_lt
      have hgt : y < x ↔ y.toNat < x.toNat := UInt8.lt_iff_toNat_lt
      have heq : x = y ↔ x.toNat = y.toNat := UInt8.toNat_inj.symm
      unfold Lib.compareBytes
      rw [ih]
      simp only [List.cons_lt_cons_iff]
      by_cases h1 : x < y
      · simp [h1]
      · by_cases h2 : y < x
        · have h3 : ¬ x = y := by rw [heq]; rw [hgt] at h2; omega
          simp [h1, h2, h3]
        · have h3 : x = y := by rw [heq]; rw [hgt] at h2; rw [hlt] at h1; omega
          subst h3
          simp [h1]
theorem len_lt {x y : Nat} (h : (S x).size < (S y).size) : x < y := by
  rw [S_size, S_size] at h
  have := len_lt_val (num_digs x) (num_numB y) h
  rwa [val_num, val_num] at this
theorem same_len {x y : Nat} (h : (S x).size = (S y).size) : (num x < num y ↔ x < y) ∧ (num x = num y ↔ x = y) := by
  rw [S_size, S_size] at h
  have := cmp_len (num_digs x) (num_digs y) h
  rwa [val_num, val_num] at this
theorem compare_num {x y : Nat} (h : (S x).size = (S y).size) : Lib.compareBytes (S x).data.toList (S y).data.toList = cmpN x y := by
  rw [S_list, S_list, compare_eq]
  unfold cmpN
  obtain ⟨h1, h2⟩ := same_len h
  simp only [h1, h2]
theorem compare_any (x y : Nat) (w : World) (h : Hid ((S x).size = (S y).size)) : Calls Tryd.prog 50 #[.string (S x), .string (S y)] w fun e w' => e = .returned (.int .i64 (cmpN x y)) ∧ w = w' :=
  (Tryd.strings_Compare (S x) (S y) w).mono fun _ _ ⟨he, hw⟩ => ⟨by rw [he, compare_num h.out], hw.symm⟩
set_option maxHeartbeats 400000 in
theorem cmp_any (x y : Nat) (w : World) (hx : (S x).size ≤ 9223372036854775807) (hy : (S y).size ≤ 9223372036854775807) : Calls Tryd.prog 33 #[.string (S x), .string (S y)] w fun e w' => e = .returned (.int .i64 (cmpN x y)) ∧ w = w' := by
  rcases Nat.lt_trichotomy (S x).size (S y).size with h | h | h
  · have HC := Lib.hid (cmpN_lt (len_lt h))
    have h2 : (((S x).size : Int) != ((S y).size : Int)) = true := by rw [bne_iff_ne]; omega
    go_enter Tryd.func33, Tryd.ntmps33
    go_wp2
    go_ret
    exact ⟨ret_int HC.out.symm, rfl⟩
  · have HE := Lib.hid h
    have h2 : (((S x).size : Int) != ((S y).size : Int)) = false := by rw [h]; simp
    clear h
    go_enter Tryd.func33, Tryd.ntmps33
    go_wp2_with (go_at_call 50; refine (compare_any _ _ _ HE).mono ?_; rintro e w' ⟨rfl, rfl⟩)
    go_ret
    exact ⟨rfl, rfl⟩
  · have HC := Lib.hid (cmpN_gt (len_lt h))
    have h2 : (((S x).size : Int) != ((S y).size : Int)) = true := by rw [bne_iff_ne]; omega
    go_enter Tryd.func33, Tryd.ntmps33
    go_wp2
    go_ret
    exact ⟨ret_int HC.out.symm, rfl⟩
theorem less_S {x y : Nat} (h : (S x).size = (S y).size) : Op.bytesLess (S x).toList (S y).toList = decide (x < y) := by
  rw [ByteArray.toList_eq, ByteArray.toList_eq, Proofs.bytesLess_eq, S_list, S_list]
  have := (same_len h).1
  by_cases c : x < y
  · rw [decide_eq_true c, decide_eq_true (this.2 c)]
  · rw [decide_eq_false c, decide_eq_false (fun e => c (this.1 e))]
theorem eq_S (x y : Nat) : ((S x).toList == (S y).toList) = decide (x = y) := by
  rw [ByteArray.toList_eq, ByteArray.toList_eq, S_list, S_list]
  by_cases c : x = y
  · subst c; simp
  · rw [decide_eq_false c, beq_eq_false_iff_ne]; exact fun e => c (num_inj e)
set_option maxHeartbeats 400000 in
theorem rcmp_any (x y : Nat) (w : World) (hx : (S x).size ≤ 9223372036854775807) (hy : (S y).size ≤ 9223372036854775807) : Calls Tryd.prog 43 #[.string (S x), .string (S y)] w fun e w' => e = .returned (.int .i64 (cmpN x y)) ∧ w = w' := by
  rcases Nat.lt_trichotomy (S x).size (S y).size with h | h | h
  · have HC := Lib.hid (cmpN_lt (len_lt h))
    go_enter Tryd.func43, Tryd.ntmps43
    go_wp2
    go_ret
    exact ⟨ret_int HC.out.symm, rfl⟩
  · have h2 : (((S x).size : Int) == ((S y).size : Int)) = true := by rw [h]; simp
    have h4 : ¬ (S x).size < (S y).size := by omega
    rcases Nat.lt_trichotomy x y with c | c | c
    · have h5 : Op.bytesLess (S x).toList (S y).toList = true := by rw [less_S h]; exact decide_eq_true c
      have HC := Lib.hid (cmpN_lt c)
      clear h c
      go_enter Tryd.func43, Tryd.ntmps43
      go_wp2
      go_ret
      exact ⟨ret_int HC.out.symm, rfl⟩
    · have h5 : Op.bytesLess (S x).toList (S y).toList = false := by rw [less_S h]; exact decide_eq_false (by omega)
      have h6 : ((S x).toList == (S y).toList) = true := by rw [eq_S]; exact decide_eq_true c
      have HC := Lib.hid (show cmpN x y = 0 by rw [c]; exact cmpN_eq y)
      clear h c
      go_enter Tryd.func43, Tryd.ntmps43
      go_wp2
      go_ret
      exact ⟨ret_int HC.out.symm, rfl⟩
    · have h5 : Op.bytesLess (S x).toList (S y).toList = false := by rw [less_S h]; exact decide_eq_false (by omega)
      have h6 : ((S x).toList == (S y).toList) = false := by rw [eq_S]; exact decide_eq_false (by omega)
      have HC := Lib.hid (cmpN_gt c)
      clear h c
      go_enter Tryd.func43, Tryd.ntmps43
      go_wp2
      go_ret
      exact ⟨ret_int HC.out.symm, rfl⟩
  · have HC := Lib.hid (cmpN_gt (len_lt h))
    have h2 : (((S x).size : Int) == ((S y).size : Int)) = false := by rw [beq_eq_false_iff_ne]; omega
    have h6 : ((S x).toList == (S y).toList) = false := by rw [eq_S]; exact decide_eq_false (by intro e; subst e; omega)
    go_enter Tryd.func43, Tryd.ntmps43
    go_wp2
    go_ret
    exact ⟨ret_int HC.out.symm, rfl⟩
end Go.Proofs.YtjidjcnjgjmeoaaDoor.Dig
