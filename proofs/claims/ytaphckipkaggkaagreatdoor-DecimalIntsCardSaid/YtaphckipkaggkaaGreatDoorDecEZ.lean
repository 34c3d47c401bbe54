/-
  The variable strconv.ErrRange, as a call finds it.
-/
import Derived.Test.YtaphckipkaggkaaGreatDoorDecCA
import Derived.Lib.ParseIntB
import Derived.Test.YtaphckipkaggkaaGreatDoorDecY
import Derived.Test.YtaphckipkaggkaaGreatDoorShelf2
import Derived.Test.YtaphckipkaggkaaGreatDoorShelf4
import Derived.Test.YtaphckipkaggkaaGreatDoorShelf5
import Derived.Lib.AtoiErrMem
import Derived.OpenShut
import Derived.Lib.LaidU8
namespace Go.Proofs.YtaphckipkaggkaaGreatDoor.Dec
open Go.RowKit
set_option linter.unusedVariables false
set_option linter.unusedSimpArgs false
open Go.Proofs.YtaphckipkaggkaaGreatDoor.Dig

theorem pum : ∀ (l : List UInt8) (a : Nat), digs l = true → a ≤ 18446744073709551615 →
    Lib.parseUintM 18446744073709551615 a l = if a * 10 ^ l.length + val l ≤ 18446744073709551615 then .ok (a * 10 ^ l.length + val l) else .range := by
  intro l
  induction l with
  | nil => intro a _ ha; rw [Lib.parseUintM, if_pos (by simp [val]; omega)]; simp [val]
  | cons c l ih =>
    intro a hl ha
    unfold digs at hl
    rw [List.all_cons, Bool.and_eq_true] at hl
    have hc := isd_iff.1 hl.1
    have e : a * 10 ^ (c :: l).length + val (c :: l) = (a * 10 + (c.toNat - 48)) * 10 ^ l.length + val l := by
      show a * 10 ^ (l.length + 1) + ((c.toNat - 48) * 10 ^ l.length + val l) = _
      rw [Nat.pow_succ, Nat.add_mul, Nat.mul_assoc, Nat.mul_comm 10, Nat.add_assoc]
    have hp : a * 10 + (c.toNat - 48) ≤ (a * 10 + (c.toNat - 48)) * 10 ^ l.length := Nat.le_mul_of_pos_right _ (pow_pos' _)
    rw [e, Lib.parseUintM, if_pos hc]
    by_cases h1 : 1844674407370955162 ≤ a
    · rw [if_pos h1, if_neg (by omega)]
    · rw [if_neg h1]
      by_cases h2 : 18446744073709551615 < a * 10 + (c.toNat - 48)
      · rw [if_pos h2, if_neg (by omega)]
      · rw [if_neg h2]; exact ih _ hl.2 (by omega)
theorem pub {l : List UInt8} (h : digs l = true) (h0 : l ≠ []) : Lib.parseUintB 64 l = if val l ≤ 18446744073709551615 then .ok (val l) else .range := by
  unfold Lib.parseUintB
  rw [if_neg h0]
  have := pum l 0 h (by omega)
  rw [Nat.zero_mul, Nat.zero_add] at this
  exact this
/-- The int of a sign and an absolute value, where there is one. -/
def inI (g : Bool) (v : Nat) : Bool := decide (v ≤ 9223372036854775807) || (g && decide (v = 9223372036854775808))
def sgI (g : Bool) (v : Nat) : Int := if g then -(v : Int) else v
theorem pib_pos {v : Nat} (h : 0 < v) : Lib.parseIntB 64 (num v) = if v ≤ 9223372036854775807 then .ok (v : Int) else .range := by
  cases hc : num v with
  | nil => have := num_nil.1 hc; omega
  | cons c t =>
    have hh := num_hd v c t hc
    have h1 : ¬ (c.toNat = 43 ∨ c.toNat = 45) := by have := isd_iff.1 hh.1; omega
    have h2 : ¬ c.toNat = 45 := fun e => h1 (.inr e)
    have h43 : ¬ c.toNat = 43 := fun e => h1 (.inl e)
    unfold Lib.parseIntB
    simp only [h43, h2, or_self, if_false]
    rw [← hc, pub (num_digs v) (num_ne h), val_num]
    by_cases h3 : v ≤ 9223372036854775807
    · rw [if_pos (by omega), if_pos h3]
      simp only [not_false_eq_true, true_and, false_and, if_false]
      rw [if_neg (by omega)]
    · rw [if_neg h3]
      by_cases h4 : v ≤ 18446744073709551615
      · rw [if_pos h4]
        simp only [not_false_eq_true, true_and]
        rw [if_pos (by omega)]
      · rw [if_neg h4]
theorem pib_neg {v : Nat} (h : 0 < v) : Lib.parseIntB 64 (45 :: num v) = if v ≤ 9223372036854775808 then .ok (-(v : Int)) else .range := by
  have h1 : (45 : UInt8).toNat = 45 := rfl
  unfold Lib.parseIntB
  simp only [h1, or_true, if_true]
  rw [pub (num_digs v) (num_ne h), val_num]
  by_cases h3 : v ≤ 9223372036854775808
  · rw [if_pos (by omega), if_pos h3]
    simp only [not_true_eq_false, true_and, false_and, if_false, if_true]
    rw [if_neg (by omega)]
  · rw [if_neg h3]
    by_cases h4 : v ≤ 18446744073709551615
    · rw [if_pos h4]
      simp only [not_true_eq_false, true_and, false_and, if_false]
      rw [if_pos (by omega)]
    · rw [if_neg h4]
theorem pib_any (g : Bool) {v : Nat} (h : 0 < v) : Lib.parseIntB 64 (if g then 45 :: num v else num v) = if inI g v = true then .ok (sgI g v) else .range := by
  unfold inI sgI
  cases g
  · rw [if_neg (by simp), pib_pos h]; simp
  · rw [if_pos rfl, pib_neg h]
    by_cases h3 : v ≤ 9223372036854775808
    · rw [if_pos h3, if_pos (by simp; omega), if_pos rfl]
    · rw [if_neg h3, if_neg (by simp; omega)]
/-- What ToInt gives. -/
def tdI (g : Bool) (n : Nat) (x : Int) : Int := if 0 ≤ x ∧ (num n).length + x ≤ 19 ∧ inI g (n * 10 ^ x.toNat) = true then sgI g (n * 10 ^ x.toNat) else 0
def tdE (g : Bool) (n : Nat) (x : Int) : Int := if x < 0 then 15 else if (num n).length + x ≤ 19 ∧ inI g (n * 10 ^ x.toNat) = true then 0 else 2
theorem int_fits {n : Nat} (h : n ≤ 9223372036854775808) : fits n 0 = true := by
  have hl : (num n).length ≤ 19 := num_len.2 (by omega)
  rcases Nat.eq_zero_or_pos n with h0 | h0
  · subst h0; decide
  · have := len_cut h0
    unfold fits
    rw [decide_eq_true_eq]; omega
theorem int_back {n : Int} (h : -9223372036854775808 ≤ n ∧ n ≤ 9223372036854775807) :
    tdI (nG (decide (n < 0)) n.natAbs 0) (nN n.natAbs 0) (nX n.natAbs 0) = n ∧ tdE (nG (decide (n < 0)) n.natAbs 0) (nN n.natAbs 0) (nX n.natAbs 0) = 0 := by
  have hf := int_fits (n := n.natAbs) (by omega)
  unfold nG nN nX
  rw [hf]
  by_cases h0 : n = 0
  · subst h0; decide
  · have hz : n.natAbs ≠ 0 := by omega
    have hl : (num n.natAbs).length ≤ 19 := num_len.2 (by omega)
    have hc := len_cut (show 0 < n.natAbs by omega)
    rw [if_pos ⟨hz, rfl⟩, if_pos rfl, if_pos ⟨hz, rfl⟩]
    have e : cut n.natAbs * 10 ^ ((0 : Int) + (zr n.natAbs : Int)).toNat = n.natAbs := by
      rw [show ((0 : Int) + (zr n.natAbs : Int)).toNat = zr n.natAbs by omega, cut_mul]
    have hi : inI (decide (n < 0)) n.natAbs = true := by
      unfold inI
      by_cases hn : n < 0
      · simp [hn]; omega
      · simp [hn]; omega
    unfold tdI tdE
    rw [e]
    refine ⟨?_, ?_⟩
    · rw [if_pos ⟨by omega, by omega, hi⟩]
      unfold sgI
      by_cases hn : n < 0
      · rw [decide_eq_true hn, if_pos rfl]; omega
      · rw [decide_eq_false hn, if_neg (by simp)]; omega
    · rw [if_neg (by omega), if_pos ⟨by omega, hi⟩]
end Go.Proofs.YtaphckipkaggkaaGreatDoor.Dec
namespace Go.Proofs.YtaphckipkaggkaaGreatDoor.Dec
open Go.RowKit
set_option linter.unusedVariables false
set_option linter.unusedSimpArgs false
open Go.Proofs.YtaphckipkaggkaaGreatDoor.Dig

theorem whole_any (g : Bool) (s : ByteArray) (x : Int) (w : World) : Calls Tryz.prog 10 #[.agg #[.bool g, .string s, .int .i64 x]] w fun e w' => e = .returned (.bool (decide (0 ≤ x))) ∧ Below w.heap.size w w' := by
  go_enter Tryz.func10, Tryz.ntmps10
  go_wp2
  go_ret
  exact ⟨by first | rfl | (congr 3), (Below.refl _ _).alloc (Nat.le_refl _) _⟩
theorem rwhole_any (g : Bool) (s : ByteArray) (x : Int) (w : World) : Calls Tryz.prog 11 #[.agg #[.bool g, .string s, .int .i64 x]] w fun e w' => e = .returned (.bool (decide (0 ≤ x))) ∧ Below w.heap.size w w' := by
  go_enter Tryz.func11, Tryz.ntmps11
  go_wp2
  go_ret
  exact ⟨by first | rfl | (congr 3), (Below.refl _ _).alloc (Nat.le_refl _) _⟩
theorem abs_any (g : Bool) (s : ByteArray) (x : Int) (w : World) : Calls Tryz.prog 14 #[.agg #[.bool g, .string s, .int .i64 x]] w fun e w' => e = .returned (.agg #[.bool false, .string s, .int .i64 x]) ∧ Below w.heap.size w w' := by
  go_enter Tryz.func14, Tryz.ntmps14
  go_wp2
  exact bodyPost_ret (v := .agg #[.bool false, .string s, .int .i64 x]) (by simp [results, Tryz.results14, go_sem]) rfl ⟨rfl, ((Below.refl _ _).alloc (Nat.le_refl _) _).alloc (by simp) _⟩
theorem rabs_any (g : Bool) (s : ByteArray) (x : Int) (w : World) : Calls Tryz.prog 15 #[.agg #[.bool g, .string s, .int .i64 x]] w fun e w' => e = .returned (.agg #[.bool false, .string s, .int .i64 x]) ∧ Below w.heap.size w w' := by
  go_enter Tryz.func15, Tryz.ntmps15
  go_wp2
  exact bodyPost_ret (v := .agg #[.bool false, .string s, .int .i64 x]) (by simp [results, Tryz.results15, go_sem]) rfl ⟨rfl, ((Below.refl _ _).alloc (Nat.le_refl _) _).alloc (by simp) _⟩
theorem trim_itoa {n : Int} (h : -9223372036854775808 ≤ n ∧ n ≤ 9223372036854775807) : Num ⟨(Lib.trimPrefix (Lib.itoa n) [45]).toArray⟩ n.natAbs ∧ (⟨(Lib.trimPrefix (Lib.itoa n) [45]).toArray⟩ : ByteArray).size ≤ 20 := by
  have hs : ∀ l : List UInt8, (⟨l.toArray⟩ : ByteArray).size = l.length := fun l => by simp [ByteArray.size]
  have key : ∀ l : List UInt8, digs l = true → val l = n.natAbs → l.length ≤ 20 → Num ⟨l.toArray⟩ n.natAbs ∧ (⟨l.toArray⟩ : ByteArray).size ≤ 20 := fun l h1 h2 h3 => ⟨⟨h1, h2⟩, by rw [hs]; exact h3⟩
  by_cases h0 : n = 0
  · subst h0
    have e0 : Lib.itoa 0 = [48] := by
      unfold Lib.itoa
      rw [if_neg (by omega)]
      show Lib.decDigits 0 = _
      rw [Lib.decDigits, dif_pos (by omega)]; rfl
    rw [e0]; exact key _ (by decide) (by decide) (by decide)
  · have hl : (num n.natAbs).length ≤ 19 := num_len.2 (by omega)
    rw [itoa_num h0]
    by_cases hn : n < 0
    · rw [if_pos hn]
      have e : Lib.trimPrefix (45 :: num n.natAbs) [45] = num n.natAbs := by
        unfold Lib.trimPrefix; simp [Lib.hasPrefix]
      rw [e]; exact key _ (num_digs _) (val_num _) (by omega)
    · rw [if_neg hn]
      have e : Lib.trimPrefix (num n.natAbs) [45] = num n.natAbs := by
        cases hc : num n.natAbs with
        | nil => rfl
        | cons c t =>
          have := (num_hd _ c t hc).2.2.1
          unfold Lib.trimPrefix
          simp [Lib.hasPrefix, Ne.symm this]
      rw [e]; exact key _ (num_digs _) (val_num _) (by omega)
set_option maxHeartbeats 1000000 in
theorem dfrom_any (n : Int) (w : World) (hn : -9223372036854775808 ≤ n ∧ n ≤ 9223372036854775807) (htab : Lib.TabIs Tryz.prog w "internal/strconv.uint64pow10" .u64 Lib.pow10Tab) : Calls Tryz.prog 4 #[.int .i64 n] w fun e w' => e = .returned (.agg #[.bool (nG (decide (n < 0)) n.natAbs 0), .string (S (nN n.natAbs 0)), .int .i64 (nX n.natAbs 0)]) ∧ Below w.heap.size w w' := by
  have HT := trim_itoa hn
  have HI : Hid (∀ w', Below w.heap.size w w' → Calls Tryz.prog 18 #[.int .i64 n] w' fun e w2 => e = .returned (.string ⟨(Lib.itoa n).toArray⟩) ∧ Below w'.heap.size w' w2) := Lib.hid (fun w' h => (Tryz.strconv_Itoa n hn.1 hn.2 w' (Joins.tab_stays (g := 2) (by kernel_rfl) htab h (Nat.le_refl _))).mono fun _ _ ⟨he, k, os, hw⟩ => ⟨he, by rw [hw]; exact Lib.below_grow _ _ (Nat.le_refl _) _ _⟩)
  have HP := Lib.hid (fun w => Tryz.strings_TrimPrefix ⟨(Lib.itoa n).toArray⟩ ⟨#[45]⟩ w)
  change Hid (∀ w, Calls Tryz.prog _ #[.string ⟨(Lib.itoa n).toArray⟩, .string ⟨#[45]⟩] w fun e w' => e = .returned (.string ⟨(Lib.trimPrefix (Lib.itoa n) [45]).toArray⟩) ∧ w' = w) at HP
  obtain ⟨A, hA⟩ : ∃ A, (⟨(Lib.itoa n).toArray⟩ : ByteArray) = A := ⟨_, rfl⟩
  obtain ⟨T, hT⟩ : ∃ T, (⟨(Lib.trimPrefix (Lib.itoa n) [45]).toArray⟩ : ByteArray) = T := ⟨_, rfl⟩
  rw [hT] at HT HP
  rw [hA] at HI HP
  have HM := Lib.hid (fun w => make_any (decide (n < 0)) T n.natAbs 0 w HT.1 (by omega) (by omega))
  have HC := Lib.hid (DC.new w false ⟨#[]⟩ 0)
  obtain ⟨a, ha⟩ : ∃ a, nG (decide (n < 0)) n.natAbs 0 = a := ⟨_, rfl⟩
  obtain ⟨b, hb⟩ : ∃ b, S (nN n.natAbs 0) = b := ⟨_, rfl⟩
  obtain ⟨c, hc⟩ : ∃ c, nX n.natAbs 0 = c := ⟨_, rfl⟩
  obtain ⟨d, hd⟩ : ∃ d, nE n.natAbs 0 = d := ⟨_, rfl⟩
  rw [ha, hb, hc, hd] at HM
  rw [ha, hb, hc]
  clear ha hb hc hd HT hA hT htab
  go_enter Tryz.func4, Tryz.ntmps4
  go_wp2_with (first | (go_at_call 18; (with_reducible refine (HI.out _ ((Below.refl _ _).alloc (Nat.le_refl _) _)).mono ?_); rintro e w1 ⟨rfl, hx⟩; have X := HC.out.below hx HC.out.lt; have bl : Below w.heap.size w w1 := ((Below.refl _ _).alloc (Nat.le_refl _) _).trans (hx.mono (by simp)); clear hx) | (go_at_call 17; (with_reducible refine (HP.out _).mono ?_); rintro e w2 ⟨rfl, rfl⟩) | (go_at_call 16; (with_reducible refine (HM.out _).mono ?_); rintro e w3 ⟨rfl, hy⟩; have Y := X.below hy X.lt; obtain ⟨x0, x1, x2⟩ := Y.cells; have y0 := Y.fz 0; have y1 := Y.fz 1; have y2 := Y.fz 2; have lt := Y.lt; have bl := bl.trans (hy.mono bl.size); clear hy))
  have Z : DC ((((w3.setCell ⟨w.heap.size, 0, none⟩ (.bool a)).setCell ⟨w.heap.size, 1, none⟩ (.string b)).setCell ⟨w.heap.size, 2, none⟩ (.int .i64 c)).alloc (.cells #[.bool a, .string b, .int .i64 c] 23)) w.heap.size a b c :=
    DC.alloc ((((World.rowIs.set Y 0 _).set 1 _).set 2 _).congr fun i hi => by
      rcases (show i = 0 ∨ i = 1 ∨ i = 2 by omega) with rfl | rfl | rfl <;> rfl) _
  obtain ⟨z0, z1, z2⟩ := Z.cells
  exact bodyPost_ret (v := .agg #[.bool a, .string b, .int .i64 c]) (by simp [results, Tryz.results4, go_sem, z0, z1, z2]) rfl ⟨rfl, (((bl.setCell (by simp) _).setCell (by simp) _).setCell (by simp) _).alloc (by simp; exact bl.size) _⟩
end Go.Proofs.YtaphckipkaggkaaGreatDoor.Dec
namespace Go.Proofs.YtaphckipkaggkaaGreatDoor.Dec
open Go.RowKit
set_option linter.unusedVariables false
set_option linter.unusedSimpArgs false
open Go.Proofs.YtaphckipkaggkaaGreatDoor.Dig

set_option maxHeartbeats 1000000 in
theorem rfrom_any (n : Int) (w : World) (hn : -9223372036854775808 ≤ n ∧ n ≤ 9223372036854775807) : Calls Tryz.prog 6 #[.int .i64 n] w fun e w' => e = .returned (.agg #[.bool (nG (decide (n < 0)) n.natAbs 0), .string (S (nN n.natAbs 0)), .int .i64 (nX n.natAbs 0)]) ∧ Below w.heap.size w w' := by
  have hl : (num n.natAbs).length ≤ 19 := num_len.2 (by omega)
  have hsz : (S n.natAbs).size ≤ 100000 := by rw [S_size]; omega
  have HF := Lib.hid (fun (z : Int) (k : Nat) (w : World) (h : z.toNat = k) (h1 : -9223372036854775808 ≤ z ∧ z ≤ 9223372036854775807) => by have := rfromInt_any z w h1; rw [h] at this; exact this)
  have HM := Lib.hid (fun w => norm_any (decide (n < 0)) (S n.natAbs) n.natAbs 0 w (Num_S _) hsz (by omega))
  have HC := Lib.hid (DC.new w false ⟨#[]⟩ 0)
  obtain ⟨a, ha⟩ : ∃ a, nG (decide (n < 0)) n.natAbs 0 = a := ⟨_, rfl⟩
  obtain ⟨b, hb⟩ : ∃ b, S (nN n.natAbs 0) = b := ⟨_, rfl⟩
  obtain ⟨c, hc⟩ : ∃ c, nX n.natAbs 0 = c := ⟨_, rfl⟩
  obtain ⟨d, hd⟩ : ∃ d, nE n.natAbs 0 = d := ⟨_, rfl⟩
  rw [ha, hb, hc, hd] at HM
  rw [ha, hb, hc]
  clear ha hb hc hd
  by_cases h0 : n < 0
  · have HS : Hid (∀ w, Calls Tryz.prog 23 #[.string (S (n.natAbs - 1)), .string ⟨#[49]⟩] w fun e w' => e = .returned (.string (S n.natAbs)) ∧ Below w.heap.size w w') := Lib.hid (fun w => by
      have h2 : (num (n.natAbs - 1)).length ≤ 19 := num_len.2 (by omega)
      have := sum_any (n.natAbs - 1) 1 w (by rw [S_size]; omega) (by rw [s1]; decide)
      rw [s1, show n.natAbs - 1 + 1 = n.natAbs by omega] at this; exact this)
    have HA : Hid (∀ w, Calls Tryz.prog 22 #[.int .i64 n] w fun e w' => e = .returned (.string ⟨#[]⟩) ∧ Below w.heap.size w w') := Lib.hid (fun w => HF.out n 0 w (by omega) hn)
    have HB : Hid (∀ z w, z = -(n + 1) → Calls Tryz.prog 22 #[.int .i64 z] w fun e w' => e = .returned (.string (S (n.natAbs - 1))) ∧ Below w.heap.size w w') := Lib.hid (fun z w h => HF.out z _ w (by omega) (by omega))
    generalize S n.natAbs = B at *
    generalize S (n.natAbs - 1) = B1 at *
    rw [decide_eq_true h0] at HM
    have X := HC.out
    have bl : Below w.heap.size w (w.alloc (.cells #[.bool false, .string ⟨#[]⟩, .int .i64 0] 23)) := (Below.refl _ _).alloc (Nat.le_refl _) _
    clear HF hl hsz
    go_enter Tryz.func6, Tryz.ntmps6
    go_wp2_with (first | (go_at_call 22; first | ((with_reducible refine (HA.out _).mono ?_); rintro e w1 ⟨rfl, hx⟩; have X := X.below hx X.lt; have bl := bl.trans (hx.mono bl.size); clear hx) | ((with_reducible refine (HB.out _ _ (by omega)).mono ?_); rintro e w1 ⟨rfl, hx⟩; have X := X.below hx X.lt; have bl := bl.trans (hx.mono bl.size); clear hx)) | (go_at_call 23; (with_reducible refine (HS.out _).mono ?_); rintro e w2 ⟨rfl, hx⟩; have X := X.below hx X.lt; have bl := bl.trans (hx.mono bl.size); clear hx) | (go_at_call 24; (with_reducible refine (HM.out _).mono ?_); rintro e w3 ⟨rfl, hy⟩; have Y := X.below hy X.lt; obtain ⟨x0, x1, x2⟩ := Y.cells; have y0 := Y.fz 0; have y1 := Y.fz 1; have y2 := Y.fz 2; have lt := Y.lt; have bl := bl.trans (hy.mono bl.size); clear hy))
    have Z : DC ((((w3.setCell ⟨w.heap.size, 0, none⟩ (.bool a)).setCell ⟨w.heap.size, 1, none⟩ (.string b)).setCell ⟨w.heap.size, 2, none⟩ (.int .i64 c)).alloc (.cells #[.bool a, .string b, .int .i64 c] 23)) w.heap.size a b c :=
      DC.alloc ((((World.rowIs.set Y 0 _).set 1 _).set 2 _).congr fun i hi => by
        rcases (show i = 0 ∨ i = 1 ∨ i = 2 by omega) with rfl | rfl | rfl <;> rfl) _
    obtain ⟨z0, z1, z2⟩ := Z.cells
    exact bodyPost_ret (v := .agg #[.bool a, .string b, .int .i64 c]) (by simp [results, Tryz.results6, go_sem, z0, z1, z2]) rfl ⟨rfl, (((bl.setCell (by simp) _).setCell (by simp) _).setCell (by simp) _).alloc (by simp; exact bl.size) _⟩
  · have HA : Hid (∀ w, Calls Tryz.prog 22 #[.int .i64 n] w fun e w' => e = .returned (.string (S n.natAbs)) ∧ Below w.heap.size w w') := Lib.hid (fun w => HF.out n _ w (by omega) hn)
    generalize S n.natAbs = B at *
    have HM : Hid (∀ (q : Bool) w, q = false → Calls Tryz.prog 24 #[.bool q, .string B, .int .i64 0] w fun e w' => e = .returned (.tuple #[.agg #[.bool a, .string b, .int .i64 c], .int .i64 d]) ∧ Below w.heap.size w w') := Lib.hid (fun q w hq => by have := HM.out w; rw [decide_eq_false h0] at this; rw [hq]; exact this)
    have X := HC.out
    have bl : Below w.heap.size w (w.alloc (.cells #[.bool false, .string ⟨#[]⟩, .int .i64 0] 23)) := (Below.refl _ _).alloc (Nat.le_refl _) _
    clear HF hl hsz
    go_enter Tryz.func6, Tryz.ntmps6
    go_wp2_with (first | (go_at_call 22; (with_reducible refine (HA.out _).mono ?_); rintro e w1 ⟨rfl, hx⟩; have X := X.below hx X.lt; have bl := bl.trans (hx.mono bl.size); clear hx) | (go_at_call 24; (with_reducible refine (HM.out _ _ (by first | rfl | (simp; omega))).mono ?_); rintro e w3 ⟨rfl, hy⟩; have Y := X.below hy X.lt; obtain ⟨x0, x1, x2⟩ := Y.cells; have y0 := Y.fz 0; have y1 := Y.fz 1; have y2 := Y.fz 2; have lt := Y.lt; have bl := bl.trans (hy.mono bl.size); clear hy))
    have Z : DC ((((w3.setCell ⟨w.heap.size, 0, none⟩ (.bool a)).setCell ⟨w.heap.size, 1, none⟩ (.string b)).setCell ⟨w.heap.size, 2, none⟩ (.int .i64 c)).alloc (.cells #[.bool a, .string b, .int .i64 c] 23)) w.heap.size a b c :=
      DC.alloc ((((World.rowIs.set Y 0 _).set 1 _).set 2 _).congr fun i hi => by
        rcases (show i = 0 ∨ i = 1 ∨ i = 2 by omega) with rfl | rfl | rfl <;> rfl) _
    obtain ⟨z0, z1, z2⟩ := Z.cells
    exact bodyPost_ret (v := .agg #[.bool a, .string b, .int .i64 c]) (by simp [results, Tryz.results6, go_sem, z0, z1, z2]) rfl ⟨rfl, (((bl.setCell (by simp) _).setCell (by simp) _).setCell (by simp) _).alloc (by simp; exact bl.size) _⟩
end Go.Proofs.YtaphckipkaggkaaGreatDoor.Dec
namespace Go.Proofs.YtaphckipkaggkaaGreatDoor.Dec
open Go.RowKit
set_option linter.unusedVariables false
set_option linter.unusedSimpArgs false
open Go.Proofs.YtaphckipkaggkaaGreatDoor.Dig

set_option maxHeartbeats 1000000 in
theorem dto_frac (g : Bool) (n : Nat) (x : Int) (w : World) (h : okD g n x) (hx : x < 0) : Calls Tryz.prog 5 #[.agg #[.bool g, .string (S n), .int .i64 x]] w fun e w' => e = .returned (.tuple #[.int .i64 0, .int .i64 15]) ∧ Below w.heap.size w w' := by
  have HV := Lib.hid (fun w => dvalid_ok w h)
  have HW := Lib.hid (fun w => whole_any g (S n) x w)
  rw [decide_eq_false (show ¬ 0 ≤ x by omega)] at HW
  have A := DC.new w g (S n) x
  have bl : Below w.heap.size w (w.alloc (.cells #[.bool g, .string (S n), .int .i64 x] 23)) := (Below.refl _ _).alloc (Nat.le_refl _) _
  obtain ⟨a0, a1, a2⟩ := A.cells
  generalize S n = B at *
  clear h
  go_enter Tryz.func5, Tryz.ntmps5
  go_wp2_with (first | (go_at_call 19; (with_reducible refine (HV.out _).mono ?_); rintro e w1 ⟨rfl, hX⟩; have A := A.below hX A.lt; obtain ⟨a0, a1, a2⟩ := A.cells; have bl := bl.trans (hX.mono bl.size); clear hX) | (go_at_call 10; (with_reducible refine (HW.out _).mono ?_); rintro e w2 ⟨rfl, hX⟩; have A := A.below hX A.lt; obtain ⟨a0, a1, a2⟩ := A.cells; have bl := bl.trans (hX.mono bl.size); clear hX))
  go_ret2
  exact ⟨rfl, bl⟩
set_option maxHeartbeats 1000000 in
theorem dto_long (g : Bool) (n : Nat) (x : Int) (w : World) (h : okD g n x) (hx : 0 ≤ x) (hl : 19 < ((S n).size : Int) + x) : Calls Tryz.prog 5 #[.agg #[.bool g, .string (S n), .int .i64 x]] w fun e w' => e = .returned (.tuple #[.int .i64 0, .int .i64 2]) ∧ Below w.heap.size w w' := by
  have HV := Lib.hid (fun w => dvalid_ok w h)
  have HW := Lib.hid (fun w => whole_any g (S n) x w)
  rw [decide_eq_true hx] at HW
  have A := DC.new w g (S n) x
  have bl : Below w.heap.size w (w.alloc (.cells #[.bool g, .string (S n), .int .i64 x] 23)) := (Below.refl _ _).alloc (Nat.le_refl _) _
  obtain ⟨a0, a1, a2⟩ := A.cells
  have hq : (S n).size ≤ 120 ∧ -400 ≤ x ∧ x ≤ 400 := by
    rcases h with ⟨rfl, rfl, rfl⟩ | ⟨-, -, a, b, c⟩
    · exact ⟨by decide, by decide, by decide⟩
    · exact ⟨by rw [S_size]; exact a, b, c⟩
  generalize S n = B at *
  clear h
  go_enter Tryz.func5, Tryz.ntmps5
  go_wp2_with (first | (go_at_call 19; (with_reducible refine (HV.out _).mono ?_); rintro e w1 ⟨rfl, hX⟩; have A := A.below hX A.lt; obtain ⟨a0, a1, a2⟩ := A.cells; have bl := bl.trans (hX.mono bl.size); clear hX) | (go_at_call 10; (with_reducible refine (HW.out _).mono ?_); rintro e w2 ⟨rfl, hX⟩; have A := A.below hX A.lt; obtain ⟨a0, a1, a2⟩ := A.cells; have bl := bl.trans (hX.mono bl.size); clear hX))
  go_ret2
  exact ⟨rfl, bl⟩
end Go.Proofs.YtaphckipkaggkaaGreatDoor.Dec
namespace Go.Proofs.YtaphckipkaggkaaGreatDoor.Dec
open Go.RowKit
set_option linter.unusedVariables false
set_option linter.unusedSimpArgs false
open Go.Proofs.YtaphckipkaggkaaGreatDoor.Dig

theorem mul_cat {n k : Nat} (hn : 0 < n) : S n ++ noughts k = S (n * 10 ^ k) := S_mul hn (noughts_list k)
set_option maxHeartbeats 2000000 in
theorem dto_f1 (n k : Nat) (w : World) (tp : TypeId) (p : Value) (h : okD false n (k : Int)) (hn : 0 < n) (hl : (S n).size + k ≤ 19) (hi : inI false (n * 10 ^ k) = true) (hvar : w.var? Tryz.prog "strconv.ErrRange" = some #[.iface tp p]) : Calls Tryz.prog 5 #[.agg #[.bool false, .string (S n), .int .i64 (k : Int)]] w fun e w' => e = .returned (.tuple #[.int .i64 (sgI false (n * 10 ^ k)), .int .i64 0]) ∧ Below w.heap.size w w' := by
  have HV := Lib.hid (fun w => dvalid_ok w h)
  have HW := Lib.hid (fun w => whole_any false (S n) (k : Int) w)
  rw [decide_eq_true (show 0 ≤ (k : Int) by omega)] at HW
  have HO := Lib.hid (fun w => repeat_any k w (by omega))
  have hz := noughts_size k
  have HE : Hid (S n ++ noughts k = S (n * 10 ^ k)) := Lib.hid (mul_cat hn)
  have hsz : (S (n * 10 ^ k)).size = (S n).size + (noughts k).size := by rw [← HE.out, ByteArray.size_append]
  have hv : 0 < n * 10 ^ k := Nat.mul_pos hn (pow_pos' k)
  have ey := tl_ne (S_pos hv)
  have ey' := tl_ne' (S_pos hv)
  have ei : (S (n * 10 ^ k)).toList.isEmpty = false := by first | simpa using ey | simpa using ey'
  have hq : Lib.parseIntB 64 (S (n * 10 ^ k) : ByteArray).data.toList = .ok (sgI false (n * 10 ^ k)) := by
    have := pib_any false hv
    rw [hi] at this
    simp only [if_true, if_false, Bool.false_eq_true, reduceIte] at this
    rw [← this]
    first | rfl | (rw [S_list]) | (rw [Joins.data_append, S_list]; rfl) | (simp [S_list])
  have HP : Hid (∀ W, Calls Tryz.prog 21 #[.string (S (n * 10 ^ k)), .int .i64 10, .int .i64 64] W fun e w' => e = .returned (.tuple #[.int .i64 (sgI false (n * 10 ^ k)), .nilIface]) ∧ Below W.heap.size W w') := Lib.hid (fun W => (Tryz.strconv_ParseInt_10_at64_ok _ (by first | omega | (rw [ByteArray.size_append]; show 1 + _ ≤ _; omega)) _ hq W).mono fun _ _ ⟨he, hw⟩ => ⟨he, by rcases hw with rfl | ⟨t, rfl⟩; exact Below.refl _ _; exact Lib.bytesWorld_below _ _ _⟩)
  have A := DC.new w false (S n) (k : Int)
  have bl : Below w.heap.size w (w.alloc (.cells #[.bool false, .string (S n), .int .i64 (k : Int)] 23)) := (Below.refl _ _).alloc (Nat.le_refl _) _
  obtain ⟨a0, a1, a2⟩ := A.cells
  have hcat : (S n).size + (noughts k).size ≤ 19 := by omega
  have hrng : 0 ≤ sgI false (n * 10 ^ k) ∨ True := .inr trivial
  generalize noughts k = O at *
  generalize S (n * 10 ^ k) = T at *
  generalize S n = B at *
  generalize sgI false (n * 10 ^ k) = sv at *
  have hc1 : ¬ 9223372036854775807 < B.size + O.size := by omega
  have hc2 : B.size + O.size ≤ 9223372036854775807 := by omega
  have hc3 : (⟨#[45]⟩ : ByteArray).size + T.size ≤ 9223372036854775807 := by show 1 + T.size ≤ _; omega
  have hc4 : 1 + T.size ≤ 9223372036854775807 := by omega
  clear h hq hi hv hvar hrng hz hsz hcat
  go_enter Tryz.func5, Tryz.ntmps5
  go_wp2_with (first | (go_at_call 19; (with_reducible refine (HV.out _).mono ?_); rintro e w1 ⟨rfl, hX⟩; have A := A.below hX A.lt; obtain ⟨a0, a1, a2⟩ := A.cells; have bl := bl.trans (hX.mono bl.size); clear hX) | (go_at_call 10; (with_reducible refine (HW.out _).mono ?_); rintro e w2 ⟨rfl, hX⟩; have A := A.below hX A.lt; obtain ⟨a0, a1, a2⟩ := A.cells; have bl := bl.trans (hX.mono bl.size); clear hX))
  have P : P1 w w2 false B (k : Int) := ⟨A, bl⟩
  go_region_held3 (fun (W : World) => P1 w W false B (k : Int) ∧ W.cell? ⟨w.heap.size, 0, none⟩ = some (.bool false) ∧ W.cell? ⟨w.heap.size, 1, none⟩ = some (.string B) ∧ W.cell? ⟨w.heap.size, 2, none⟩ = some (.int .i64 (k : Int))) ((first | (go_split_ands; exact P1.all (by assumption)) | (go_split_ands; exact P1.all (P1.d (by assumption))) | (go_split_ands; exact P1.all (P1.step hX (by assumption))))) (first | (go_at_call 20; (with_reducible refine (HO.out _).mono ?_); rintro e wn ⟨rfl, hX⟩))
  rename_i hH
  have A := hH.1.a
  have bl := hH.1.bel
  obtain ⟨a0, a1, a2⟩ := A.cells
  clear hH P
  rw [HE.out]
  go_wp2_with (go_at_call 21; (with_reducible refine (HP.out _).mono ?_); rintro e w3 ⟨rfl, hX⟩; have A := A.below hX A.lt; obtain ⟨a0, a1, a2⟩ := A.cells; have bl := bl.trans (hX.mono bl.size); clear hX)
  go_ret2
  exact ⟨rfl, bl⟩
set_option maxHeartbeats 2000000 in
theorem dto_f0 (n k : Nat) (w : World) (tp : TypeId) (p : Value) (h : okD false n (k : Int)) (hn : 0 < n) (hl : (S n).size + k ≤ 19) (hi : inI false (n * 10 ^ k) = false) (hvar : w.var? Tryz.prog "strconv.ErrRange" = some #[.iface tp p]) : Calls Tryz.prog 5 #[.agg #[.bool false, .string (S n), .int .i64 (k : Int)]] w fun e w' => e = .returned (.tuple #[.int .i64 0, .int .i64 2]) ∧ Below w.heap.size w w' := by
  have HV := Lib.hid (fun w => dvalid_ok w h)
  have HW := Lib.hid (fun w => whole_any false (S n) (k : Int) w)
  rw [decide_eq_true (show 0 ≤ (k : Int) by omega)] at HW
  have HO := Lib.hid (fun w => repeat_any k w (by omega))
  have hz := noughts_size k
  have HE : Hid (S n ++ noughts k = S (n * 10 ^ k)) := Lib.hid (mul_cat hn)
  have hsz : (S (n * 10 ^ k)).size = (S n).size + (noughts k).size := by rw [← HE.out, ByteArray.size_append]
  have hv : 0 < n * 10 ^ k := Nat.mul_pos hn (pow_pos' k)
  have ey := tl_ne (S_pos hv)
  have ey' := tl_ne' (S_pos hv)
  have ei : (S (n * 10 ^ k)).toList.isEmpty = false := by first | simpa using ey | simpa using ey'
  have hq : Lib.parseIntB 64 (S (n * 10 ^ k) : ByteArray).data.toList = .range := by
    have := pib_any false hv
    rw [hi] at this
    simp only [if_true, if_false, Bool.false_eq_true, reduceIte] at this
    rw [← this]
    first | rfl | (rw [S_list]) | (rw [Joins.data_append, S_list]; rfl) | (simp [S_list])
  have HP : Hid (∀ W, Below w.heap.size w W → Calls Tryz.prog 21 #[.string (S (n * 10 ^ k)), .int .i64 10, .int .i64 64] W fun e w' => ∃ (z : Int) (N : Nat), e = .returned (.tuple #[.int .i64 z, .iface 95 (.pointer (some ⟨N, 0, none⟩))]) ∧ Below W.heap.size W w') := Lib.hid (fun W hb => (Tryz.strconv_ParseInt_10_at64_range_var _ (by first | omega | (rw [ByteArray.size_append]; show 1 + _ ≤ _; omega)) hq tp p W (Joins.var_stays (g := 1) (by kernel_rfl) hvar hb (Nat.le_refl _))).mono fun _ _ ⟨N, he, _, _, hw⟩ => ⟨_, N, he, hw⟩)
  have A := DC.new w false (S n) (k : Int)
  have bl : Below w.heap.size w (w.alloc (.cells #[.bool false, .string (S n), .int .i64 (k : Int)] 23)) := (Below.refl _ _).alloc (Nat.le_refl _) _
  obtain ⟨a0, a1, a2⟩ := A.cells
  have hcat : (S n).size + (noughts k).size ≤ 19 := by omega
  have hrng : 0 ≤ sgI false (n * 10 ^ k) ∨ True := .inr trivial
  generalize noughts k = O at *
  generalize S (n * 10 ^ k) = T at *
  generalize S n = B at *
  generalize sgI false (n * 10 ^ k) = sv at *
  have hc1 : ¬ 9223372036854775807 < B.size + O.size := by omega
  have hc2 : B.size + O.size ≤ 9223372036854775807 := by omega
  have hc3 : (⟨#[45]⟩ : ByteArray).size + T.size ≤ 9223372036854775807 := by show 1 + T.size ≤ _; omega
  have hc4 : 1 + T.size ≤ 9223372036854775807 := by omega
  clear h hq hi hv hvar hrng hz hsz hcat
  go_enter Tryz.func5, Tryz.ntmps5
  go_wp2_with (first | (go_at_call 19; (with_reducible refine (HV.out _).mono ?_); rintro e w1 ⟨rfl, hX⟩; have A := A.below hX A.lt; obtain ⟨a0, a1, a2⟩ := A.cells; have bl := bl.trans (hX.mono bl.size); clear hX) | (go_at_call 10; (with_reducible refine (HW.out _).mono ?_); rintro e w2 ⟨rfl, hX⟩; have A := A.below hX A.lt; obtain ⟨a0, a1, a2⟩ := A.cells; have bl := bl.trans (hX.mono bl.size); clear hX))
  have P : P1 w w2 false B (k : Int) := ⟨A, bl⟩
  go_region_held3 (fun (W : World) => P1 w W false B (k : Int) ∧ W.cell? ⟨w.heap.size, 0, none⟩ = some (.bool false) ∧ W.cell? ⟨w.heap.size, 1, none⟩ = some (.string B) ∧ W.cell? ⟨w.heap.size, 2, none⟩ = some (.int .i64 (k : Int))) ((first | (go_split_ands; exact P1.all (by assumption)) | (go_split_ands; exact P1.all (P1.d (by assumption))) | (go_split_ands; exact P1.all (P1.step hX (by assumption))))) (first | (go_at_call 20; (with_reducible refine (HO.out _).mono ?_); rintro e wn ⟨rfl, hX⟩))
  rename_i hH
  have A := hH.1.a
  have bl := hH.1.bel
  obtain ⟨a0, a1, a2⟩ := A.cells
  clear hH P
  rw [HE.out]
  go_wp2_with (go_at_call 21; (with_reducible refine (HP.out _ bl).mono ?_); rintro e w3 ⟨z, N, rfl, hX⟩; have A := A.below hX A.lt; obtain ⟨a0, a1, a2⟩ := A.cells; have bl := bl.trans (hX.mono bl.size); clear hX)
  go_ret2
  exact ⟨rfl, bl⟩
set_option maxHeartbeats 2000000 in
theorem dto_t1 (n k : Nat) (w : World) (tp : TypeId) (p : Value) (h : okD true n (k : Int)) (hn : 0 < n) (hl : (S n).size + k ≤ 19) (hi : inI true (n * 10 ^ k) = true) (hvar : w.var? Tryz.prog "strconv.ErrRange" = some #[.iface tp p]) : Calls Tryz.prog 5 #[.agg #[.bool true, .string (S n), .int .i64 (k : Int)]] w fun e w' => e = .returned (.tuple #[.int .i64 (sgI true (n * 10 ^ k)), .int .i64 0]) ∧ Below w.heap.size w w' := by
  have HV := Lib.hid (fun w => dvalid_ok w h)
  have HW := Lib.hid (fun w => whole_any true (S n) (k : Int) w)
  rw [decide_eq_true (show 0 ≤ (k : Int) by omega)] at HW
  have HO := Lib.hid (fun w => repeat_any k w (by omega))
  have hz := noughts_size k
  have HE : Hid (S n ++ noughts k = S (n * 10 ^ k)) := Lib.hid (mul_cat hn)
  have hsz : (S (n * 10 ^ k)).size = (S n).size + (noughts k).size := by rw [← HE.out, ByteArray.size_append]
  have hv : 0 < n * 10 ^ k := Nat.mul_pos hn (pow_pos' k)
  have ey := tl_ne (S_pos hv)
  have ey' := tl_ne' (S_pos hv)
  have ei : (S (n * 10 ^ k)).toList.isEmpty = false := by first | simpa using ey | simpa using ey'
  have hq : Lib.parseIntB 64 (⟨#[45]⟩ ++ S (n * 10 ^ k) : ByteArray).data.toList = .ok (sgI true (n * 10 ^ k)) := by
    have := pib_any true hv
    rw [hi] at this
    simp only [if_true, if_false, Bool.false_eq_true, reduceIte] at this
    rw [← this]
    first | rfl | (rw [S_list]) | (rw [Joins.data_append, S_list]; rfl) | (simp [S_list])
  have HP : Hid (∀ W, Calls Tryz.prog 21 #[.string (⟨#[45]⟩ ++ S (n * 10 ^ k)), .int .i64 10, .int .i64 64] W fun e w' => e = .returned (.tuple #[.int .i64 (sgI true (n * 10 ^ k)), .nilIface]) ∧ Below W.heap.size W w') := Lib.hid (fun W => (Tryz.strconv_ParseInt_10_at64_ok _ (by first | omega | (rw [ByteArray.size_append]; show 1 + _ ≤ _; omega)) _ hq W).mono fun _ _ ⟨he, hw⟩ => ⟨he, by rcases hw with rfl | ⟨t, rfl⟩; exact Below.refl _ _; exact Lib.bytesWorld_below _ _ _⟩)
  have A := DC.new w true (S n) (k : Int)
  have bl : Below w.heap.size w (w.alloc (.cells #[.bool true, .string (S n), .int .i64 (k : Int)] 23)) := (Below.refl _ _).alloc (Nat.le_refl _) _
  obtain ⟨a0, a1, a2⟩ := A.cells
  have hcat : (S n).size + (noughts k).size ≤ 19 := by omega
  have hrng : 0 ≤ sgI true (n * 10 ^ k) ∨ True := .inr trivial
  generalize noughts k = O at *
  generalize S (n * 10 ^ k) = T at *
  generalize S n = B at *
  generalize sgI true (n * 10 ^ k) = sv at *
  have hc1 : ¬ 9223372036854775807 < B.size + O.size := by omega
  have hc2 : B.size + O.size ≤ 9223372036854775807 := by omega
  have hc3 : (⟨#[45]⟩ : ByteArray).size + T.size ≤ 9223372036854775807 := by show 1 + T.size ≤ _; omega
  have hc4 : 1 + T.size ≤ 9223372036854775807 := by omega
  clear h hq hi hv hvar hrng hz hsz hcat
  go_enter Tryz.func5, Tryz.ntmps5
  go_wp2_with (first | (go_at_call 19; (with_reducible refine (HV.out _).mono ?_); rintro e w1 ⟨rfl, hX⟩; have A := A.below hX A.lt; obtain ⟨a0, a1, a2⟩ := A.cells; have bl := bl.trans (hX.mono bl.size); clear hX) | (go_at_call 10; (with_reducible refine (HW.out _).mono ?_); rintro e w2 ⟨rfl, hX⟩; have A := A.below hX A.lt; obtain ⟨a0, a1, a2⟩ := A.cells; have bl := bl.trans (hX.mono bl.size); clear hX))
  have P : P1 w w2 true B (k : Int) := ⟨A, bl⟩
  go_region_held3 (fun (W : World) => P1 w W true B (k : Int) ∧ W.cell? ⟨w.heap.size, 0, none⟩ = some (.bool true) ∧ W.cell? ⟨w.heap.size, 1, none⟩ = some (.string B) ∧ W.cell? ⟨w.heap.size, 2, none⟩ = some (.int .i64 (k : Int))) ((first | (go_split_ands; exact P1.all (by assumption)) | (go_split_ands; exact P1.all (P1.d (by assumption))) | (go_split_ands; exact P1.all (P1.step hX (by assumption))))) (first | (go_at_call 20; (with_reducible refine (HO.out _).mono ?_); rintro e wn ⟨rfl, hX⟩))
  rename_i hH
  have A := hH.1.a
  have bl := hH.1.bel
  obtain ⟨a0, a1, a2⟩ := A.cells
  clear hH P
  rw [HE.out]
  go_wp2_with (go_at_call 21; (with_reducible refine (HP.out _).mono ?_); rintro e w3 ⟨rfl, hX⟩; have A := A.below hX A.lt; obtain ⟨a0, a1, a2⟩ := A.cells; have bl := bl.trans (hX.mono bl.size); clear hX)
  go_ret2
  exact ⟨rfl, bl⟩
set_option maxHeartbeats 2000000 in
theorem dto_t0 (n k : Nat) (w : World) (tp : TypeId) (p : Value) (h : okD true n (k : Int)) (hn : 0 < n) (hl : (S n).size + k ≤ 19) (hi : inI true (n * 10 ^ k) = false) (hvar : w.var? Tryz.prog "strconv.ErrRange" = some #[.iface tp p]) : Calls Tryz.prog 5 #[.agg #[.bool true, .string (S n), .int .i64 (k : Int)]] w fun e w' => e = .returned (.tuple #[.int .i64 0, .int .i64 2]) ∧ Below w.heap.size w w' := by
  have HV := Lib.hid (fun w => dvalid_ok w h)
  have HW := Lib.hid (fun w => whole_any true (S n) (k : Int) w)
  rw [decide_eq_true (show 0 ≤ (k : Int) by omega)] at HW
  have HO := Lib.hid (fun w => repeat_any k w (by omega))
  have hz := noughts_size k
  have HE : Hid (S n ++ noughts k = S (n * 10 ^ k)) := Lib.hid (mul_cat hn)
  have hsz : (S (n * 10 ^ k)).size = (S n).size + (noughts k).size := by rw [← HE.out, ByteArray.size_append]
  have hv : 0 < n * 10 ^ k := Nat.mul_pos hn (pow_pos' k)
  have ey := tl_ne (S_pos hv)
  have ey' := tl_ne' (S_pos hv)
  have ei : (S (n * 10 ^ k)).toList.isEmpty = false := by first | simpa using ey | simpa using ey'
  have hq : Lib.parseIntB 64 (⟨#[45]⟩ ++ S (n * 10 ^ k) : ByteArray).data.toList = .range := by
    have := pib_any true hv
    rw [hi] at this
    simp only [if_true, if_false, Bool.false_eq_true, reduceIte] at this
    rw [← this]
    first | rfl | (rw [S_list]) | (rw [Joins.data_append, S_list]; rfl) | (simp [S_list])
  have HP : Hid (∀ W, Below w.heap.size w W → Calls Tryz.prog 21 #[.string (⟨#[45]⟩ ++ S (n * 10 ^ k)), .int .i64 10, .int .i64 64] W fun e w' => ∃ (z : Int) (N : Nat), e = .returned (.tuple #[.int .i64 z, .iface 95 (.pointer (some ⟨N, 0, none⟩))]) ∧ Below W.heap.size W w') := Lib.hid (fun W hb => (Tryz.strconv_ParseInt_10_at64_range_var _ (by first | omega | (rw [ByteArray.size_append]; show 1 + _ ≤ _; omega)) hq tp p W (Joins.var_stays (g := 1) (by kernel_rfl) hvar hb (Nat.le_refl _))).mono fun _ _ ⟨N, he, _, _, hw⟩ => ⟨_, N, he, hw⟩)
  have A := DC.new w true (S n) (k : Int)
  have bl : Below w.heap.size w (w.alloc (.cells #[.bool true, .string (S n), .int .i64 (k : Int)] 23)) := (Below.refl _ _).alloc (Nat.le_refl _) _
  obtain ⟨a0, a1, a2⟩ := A.cells
  have hcat : (S n).size + (noughts k).size ≤ 19 := by omega
  have hrng : 0 ≤ sgI true (n * 10 ^ k) ∨ True := .inr trivial
  generalize noughts k = O at *
  generalize S (n * 10 ^ k) = T at *
  generalize S n = B at *
  generalize sgI true (n * 10 ^ k) = sv at *
  have hc1 : ¬ 9223372036854775807 < B.size + O.size := by omega
  have hc2 : B.size + O.size ≤ 9223372036854775807 := by omega
  have hc3 : (⟨#[45]⟩ : ByteArray).size + T.size ≤ 9223372036854775807 := by show 1 + T.size ≤ _; omega
  have hc4 : 1 + T.size ≤ 9223372036854775807 := by omega
  clear h hq hi hv hvar hrng hz hsz hcat
  go_enter Tryz.func5, Tryz.ntmps5
  go_wp2_with (first | (go_at_call 19; (with_reducible refine (HV.out _).mono ?_); rintro e w1 ⟨rfl, hX⟩; have A := A.below hX A.lt; obtain ⟨a0, a1, a2⟩ := A.cells; have bl := bl.trans (hX.mono bl.size); clear hX) | (go_at_call 10; (with_reducible refine (HW.out _).mono ?_); rintro e w2 ⟨rfl, hX⟩; have A := A.below hX A.lt; obtain ⟨a0, a1, a2⟩ := A.cells; have bl := bl.trans (hX.mono bl.size); clear hX))
  have P : P1 w w2 true B (k : Int) := ⟨A, bl⟩
  go_region_held3 (fun (W : World) => P1 w W true B (k : Int) ∧ W.cell? ⟨w.heap.size, 0, none⟩ = some (.bool true) ∧ W.cell? ⟨w.heap.size, 1, none⟩ = some (.string B) ∧ W.cell? ⟨w.heap.size, 2, none⟩ = some (.int .i64 (k : Int))) ((first | (go_split_ands; exact P1.all (by assumption)) | (go_split_ands; exact P1.all (P1.d (by assumption))) | (go_split_ands; exact P1.all (P1.step hX (by assumption))))) (first | (go_at_call 20; (with_reducible refine (HO.out _).mono ?_); rintro e wn ⟨rfl, hX⟩))
  rename_i hH
  have A := hH.1.a
  have bl := hH.1.bel
  obtain ⟨a0, a1, a2⟩ := A.cells
  clear hH P
  rw [HE.out]
  go_wp2_with (go_at_call 21; (with_reducible refine (HP.out _ bl).mono ?_); rintro e w3 ⟨z, N, rfl, hX⟩; have A := A.below hX A.lt; obtain ⟨a0, a1, a2⟩ := A.cells; have bl := bl.trans (hX.mono bl.size); clear hX)
  go_ret2
  exact ⟨rfl, bl⟩
end Go.Proofs.YtaphckipkaggkaaGreatDoor.Dec
namespace Go.Proofs.YtaphckipkaggkaaGreatDoor.Dec
open Go.RowKit
set_option linter.unusedVariables false
set_option linter.unusedSimpArgs false
open Go.Proofs.YtaphckipkaggkaaGreatDoor.Dig

set_option maxHeartbeats 2000000 in
theorem dto_zero (w : World) : Calls Tryz.prog 5 #[.agg #[.bool false, .string ⟨#[]⟩, .int .i64 0]] w fun e w' => e = .returned (.tuple #[.int .i64 0, .int .i64 0]) ∧ Below w.heap.size w w' := by
  have HV : Hid (∀ w, Calls Tryz.prog 19 #[.agg #[.bool false, .string ⟨#[]⟩, .int .i64 0]] w fun e w' => e = .returned (.bool true) ∧ Below w.heap.size w w') := Lib.hid (fun w => dvalid_ok (n := 0) w (.inl ⟨rfl, rfl, rfl⟩))
  have HW : Hid (∀ w, Calls Tryz.prog 10 #[.agg #[.bool false, .string ⟨#[]⟩, .int .i64 0]] w fun e w' => e = .returned (.bool true) ∧ Below w.heap.size w w') := Lib.hid (fun w => whole_any false ⟨#[]⟩ 0 w)
  have HO : Hid (∀ w, Calls Tryz.prog 20 #[.string ⟨#[48]⟩, .int .i64 0] w fun e w' => e = .returned (.string ⟨#[]⟩) ∧ Below w.heap.size w w') := Lib.hid (fun w => repeat_any 0 w (by omega))
  have ez : ((⟨#[]⟩ : ByteArray) ++ (⟨#[]⟩ : ByteArray)).toList.isEmpty = true := by rw [ByteArray.toList_eq]; rfl
  have A := DC.new w false ⟨#[]⟩ 0
  have bl : Below w.heap.size w (w.alloc (.cells #[.bool false, .string ⟨#[]⟩, .int .i64 0] 23)) := (Below.refl _ _).alloc (Nat.le_refl _) _
  obtain ⟨a0, a1, a2⟩ := A.cells
  go_enter Tryz.func5, Tryz.ntmps5
  go_wp2_with (first | (go_at_call 19; (with_reducible refine (HV.out _).mono ?_); rintro e w1 ⟨rfl, hX⟩; have A := A.below hX A.lt; obtain ⟨a0, a1, a2⟩ := A.cells; have bl := bl.trans (hX.mono bl.size); clear hX) | (go_at_call 10; (with_reducible refine (HW.out _).mono ?_); rintro e w2 ⟨rfl, hX⟩; have A := A.below hX A.lt; obtain ⟨a0, a1, a2⟩ := A.cells; have bl := bl.trans (hX.mono bl.size); clear hX))
  have P : P1 w w2 false ⟨#[]⟩ 0 := ⟨A, bl⟩
  go_region_held3 (fun (W : World) => P1 w W false ⟨#[]⟩ 0 ∧ W.cell? ⟨w.heap.size, 0, none⟩ = some (.bool false) ∧ W.cell? ⟨w.heap.size, 1, none⟩ = some (.string ⟨#[]⟩) ∧ W.cell? ⟨w.heap.size, 2, none⟩ = some (.int .i64 0)) ((first | (go_split_ands; exact P1.all (by assumption)) | (go_split_ands; exact P1.all (P1.d (by assumption))) | (go_split_ands; exact P1.all (P1.step hX (by assumption))))) (first | (go_at_call 20; (with_reducible refine (HO.out _).mono ?_); rintro e wn ⟨rfl, hX⟩))
  rename_i hH
  have bl := hH.1.bel
  clear hH P
  go_wp2
  go_ret2
  exact ⟨rfl, bl⟩
theorem dto_any (g : Bool) (n : Nat) (x : Int) (w : World) (tp : TypeId) (p : Value) (h : okD g n x) (hvar : w.var? Tryz.prog "strconv.ErrRange" = some #[.iface tp p]) : Calls Tryz.prog 5 #[.agg #[.bool g, .string (S n), .int .i64 x]] w fun e w' => e = .returned (.tuple #[.int .i64 (tdI g n x), .int .i64 (tdE g n x)]) ∧ Below w.heap.size w w' := by
  unfold tdI tdE
  rw [← S_size]
  by_cases hx : x < 0
  · rw [if_neg (by omega), if_pos hx]
    exact dto_frac g n x w h hx
  · rw [if_neg hx]
    by_cases hl : 19 < ((S n).size : Int) + x
    · rw [if_neg (by omega), if_neg (by omega)]
      exact dto_long g n x w h (by omega) hl
    · obtain ⟨k, rfl⟩ := Int.eq_ofNat_of_zero_le (show 0 ≤ x by omega)
      rw [Int.toNat_natCast]
      rcases Nat.eq_zero_or_pos n with h0 | h0
      · rcases h with ⟨rfl, rfl, hk⟩ | ⟨hn, -⟩
        · obtain rfl : k = 0 := by omega
          have := dto_zero w
          rw [if_pos ⟨by omega, by omega, by rw [Nat.zero_mul]; rfl⟩, if_pos ⟨by omega, by rw [Nat.zero_mul]; rfl⟩, Nat.zero_mul]
          exact this
        · omega
      · cases hi : inI g (n * 10 ^ k) with
        | true =>
          rw [if_pos ⟨by omega, by omega, rfl⟩, if_pos ⟨by omega, rfl⟩]
          cases g
          · exact dto_f1 n k w tp p h h0 (by omega) hi hvar
          · exact dto_t1 n k w tp p h h0 (by omega) hi hvar
        | false =>
          rw [if_neg (by simp), if_neg (by simp)]
          cases g
          · exact dto_f0 n k w tp p h h0 (by omega) hi hvar
          · exact dto_t0 n k w tp p h h0 (by omega) hi hvar
end Go.Proofs.YtaphckipkaggkaaGreatDoor.Dec
namespace Go.Proofs.YtaphckipkaggkaaGreatDoor.Dec
open Go.RowKit
set_option linter.unusedVariables false
set_option linter.unusedSimpArgs false
open Go.Proofs.YtaphckipkaggkaaGreatDoor.Dig

set_option maxHeartbeats 1000000 in
theorem rto_frac (g : Bool) (n : Nat) (x : Int) (w : World) (h : okD g n x) (hx : x < 0) : Calls Tryz.prog 9 #[.agg #[.bool g, .string (S n), .int .i64 x]] w fun e w' => e = .returned (.tuple #[.int .i64 0, .int .i64 15]) ∧ Below w.heap.size w w' := by
  have A := DC.new w g (S n) x
  have bl : Below w.heap.size w (w.alloc (.cells #[.bool g, .string (S n), .int .i64 x] 23)) := (Below.refl _ _).alloc (Nat.le_refl _) _
  obtain ⟨a0, a1, a2⟩ := A.cells
  have hq : (S n).size ≤ 120 ∧ -400 ≤ x ∧ x ≤ 400 := by
    rcases h with ⟨rfl, rfl, rfl⟩ | ⟨-, -, a, b, c⟩
    · exact ⟨by decide, by decide, by decide⟩
    · exact ⟨by rw [S_size]; exact a, b, c⟩
  generalize S n = B at *
  clear h
  go_enter Tryz.func9, Tryz.ntmps9
  go_wp2
  go_ret2
  exact ⟨rfl, bl⟩
set_option maxHeartbeats 1000000 in
theorem rto_long (g : Bool) (n : Nat) (x : Int) (w : World) (h : okD g n x) (hx : 0 ≤ x) (hl : 19 < ((S n).size : Int) + x) : Calls Tryz.prog 9 #[.agg #[.bool g, .string (S n), .int .i64 x]] w fun e w' => e = .returned (.tuple #[.int .i64 0, .int .i64 2]) ∧ Below w.heap.size w w' := by
  have A := DC.new w g (S n) x
  have bl : Below w.heap.size w (w.alloc (.cells #[.bool g, .string (S n), .int .i64 x] 23)) := (Below.refl _ _).alloc (Nat.le_refl _) _
  obtain ⟨a0, a1, a2⟩ := A.cells
  have hq : (S n).size ≤ 120 ∧ -400 ≤ x ∧ x ≤ 400 := by
    rcases h with ⟨rfl, rfl, rfl⟩ | ⟨-, -, a, b, c⟩
    · exact ⟨by decide, by decide, by decide⟩
    · exact ⟨by rw [S_size]; exact a, b, c⟩
  generalize S n = B at *
  clear h
  go_enter Tryz.func9, Tryz.ntmps9
  go_wp2
  go_ret2
  exact ⟨rfl, bl⟩
def minL : List UInt8 := [57, 50, 50, 51, 51, 55, 50, 48, 51, 54, 56, 53, 52, 55, 55, 53, 56, 48, 56]
theorem min_S : S 9223372036854775808 = ⟨#[57, 50, 50, 51, 51, 55, 50, 48, 51, 54, 56, 53, 52, 55, 55, 53, 56, 48, 56]⟩ := S_lit (by decide) (by decide)
set_option maxHeartbeats 2000000 in
theorem rto_pos (n k v : Nat) (w : World) (hE : S n ++ noughts k = S v) (hl : (S n).size + k ≤ 19) : Calls Tryz.prog 9 #[.agg #[.bool false, .string (S n), .int .i64 (k : Int)]] w fun e w' => e = .returned (.tuple #[.int .i64 (tiV v), .int .i64 (tiE v)]) ∧ Below w.heap.size w w' := by
  have HO := Lib.hid (fun w => noughts_any k w (by omega))
  have hz := noughts_size k
  have HE : Hid (S n ++ noughts k = S v) := Lib.hid hE
  have hsz : (S v).size = (S n).size + (noughts k).size := by rw [← hE, ByteArray.size_append]
  have HR : Hid (∀ w, Calls Tryz.prog 31 #[.string (S v)] w fun e w' => e = .returned (.tuple #[.int .i64 (tiV v), .int .i64 (tiE v)]) ∧ w = w') := Lib.hid (fun w => rtoInt_S v w (by omega))
  have hti : (tiV v : Int) ≤ 9223372036854775807 := by unfold tiV maxI; split <;> omega
  have A := DC.new w false (S n) (k : Int)
  have bl : Below w.heap.size w (w.alloc (.cells #[.bool false, .string (S n), .int .i64 (k : Int)] 23)) := (Below.refl _ _).alloc (Nat.le_refl _) _
  obtain ⟨a0, a1, a2⟩ := A.cells
  have hcat : (S n).size + (noughts k).size ≤ 19 := by omega
  clear hE
  generalize noughts k = O at *
  generalize S v = T at *
  generalize tiV v = tv at *
  generalize tiE v = te at *
  generalize S n = B at *
  have hc1 : ¬ 9223372036854775807 < B.size + O.size := by omega
  have hc2 : B.size + O.size ≤ 9223372036854775807 := by omega
  clear hz hsz hcat
  go_enter Tryz.func9, Tryz.ntmps9
  go_wp2
  have P : P1 w (w.alloc (.cells #[.bool false, .string B, .int .i64 (k : Int)] 23)) false B (k : Int) := ⟨A, bl⟩
  go_region_held3 (fun (W : World) => P1 w W false B (k : Int) ∧ W.cell? ⟨w.heap.size, 0, none⟩ = some (.bool false) ∧ W.cell? ⟨w.heap.size, 1, none⟩ = some (.string B) ∧ W.cell? ⟨w.heap.size, 2, none⟩ = some (.int .i64 (k : Int))) ((first | (go_split_ands; exact P1.all (by assumption)) | (go_split_ands; exact P1.all (P1.d (by assumption))) | (go_split_ands; exact P1.all (P1.step hX (by assumption))))) (first | (go_at_call 30; (with_reducible refine (HO.out _).mono ?_); rintro e wn ⟨rfl, hX⟩))
  rename_i hH
  have A := hH.1.a
  have bl := hH.1.bel
  obtain ⟨a0, a1, a2⟩ := A.cells
  clear hH P
  rw [HE.out]
  go_wp2_with (go_at_call 31; (with_reducible refine (HR.out _).mono ?_); rintro e w3 ⟨rfl, rfl⟩)
  go_ret2
  exact ⟨rfl, bl⟩
set_option maxHeartbeats 2000000 in
theorem rto_min (n k v : Nat) (w : World) (hE : S n ++ noughts k = S v) (hl : (S n).size + k ≤ 19) (hm : v = 9223372036854775808) : Calls Tryz.prog 9 #[.agg #[.bool true, .string (S n), .int .i64 (k : Int)]] w fun e w' => e = .returned (.tuple #[.int .i64 (-9223372036854775808), .int .i64 0]) ∧ Below w.heap.size w w' := by
  have HO := Lib.hid (fun w => noughts_any k w (by omega))
  have hz := noughts_size k
  have HE : Hid (S n ++ noughts k = S v) := Lib.hid hE
  have hsz : (S v).size = (S n).size + (noughts k).size := by rw [← hE, ByteArray.size_append]
  have HR : Hid (∀ w, Calls Tryz.prog 31 #[.string (S v)] w fun e w' => e = .returned (.tuple #[.int .i64 (tiV v), .int .i64 (tiE v)]) ∧ w = w') := Lib.hid (fun w => rtoInt_S v w (by omega))
  have hti : (tiV v : Int) ≤ 9223372036854775807 := by unfold tiV maxI; split <;> omega
  subst hm
  rw [min_S] at HE
  have A := DC.new w true (S n) (k : Int)
  have bl : Below w.heap.size w (w.alloc (.cells #[.bool true, .string (S n), .int .i64 (k : Int)] 23)) := (Below.refl _ _).alloc (Nat.le_refl _) _
  obtain ⟨a0, a1, a2⟩ := A.cells
  have hcat : (S n).size + (noughts k).size ≤ 19 := by omega
  clear hE
  generalize noughts k = O at *
  generalize S n = B at *
  have hc1 : ¬ 9223372036854775807 < B.size + O.size := by omega
  have hc2 : B.size + O.size ≤ 9223372036854775807 := by omega
  clear hz hsz hcat
  go_enter Tryz.func9, Tryz.ntmps9
  go_wp2
  have P : P1 w (w.alloc (.cells #[.bool true, .string B, .int .i64 (k : Int)] 23)) true B (k : Int) := ⟨A, bl⟩
  go_region_held3 (fun (W : World) => P1 w W true B (k : Int) ∧ W.cell? ⟨w.heap.size, 0, none⟩ = some (.bool true) ∧ W.cell? ⟨w.heap.size, 1, none⟩ = some (.string B) ∧ W.cell? ⟨w.heap.size, 2, none⟩ = some (.int .i64 (k : Int))) ((first | (go_split_ands; exact P1.all (by assumption)) | (go_split_ands; exact P1.all (P1.d (by assumption))) | (go_split_ands; exact P1.all (P1.step hX (by assumption))))) (first | (go_at_call 30; (with_reducible refine (HO.out _).mono ?_); rintro e wn ⟨rfl, hX⟩))
  rename_i hH
  have A := hH.1.a
  have bl := hH.1.bel
  obtain ⟨a0, a1, a2⟩ := A.cells
  clear hH P
  rw [HE.out]
  go_wp2_with (go_at_call 31; (with_reducible refine (HR.out _).mono ?_); rintro e w3 ⟨rfl, rfl⟩)
  go_ret2
  exact ⟨rfl, bl⟩
set_option maxHeartbeats 2000000 in
theorem rto_neg (n k v : Nat) (w : World) (hE : S n ++ noughts k = S v) (hl : (S n).size + k ≤ 19) (hm : v ≠ 9223372036854775808) : Calls Tryz.prog 9 #[.agg #[.bool true, .string (S n), .int .i64 (k : Int)]] w fun e w' => e = .returned (.tuple #[.int .i64 (-(tiV v : Int)), .int .i64 (tiE v)]) ∧ Below w.heap.size w w' := by
  have HO := Lib.hid (fun w => noughts_any k w (by omega))
  have hz := noughts_size k
  have HE : Hid (S n ++ noughts k = S v) := Lib.hid hE
  have hsz : (S v).size = (S n).size + (noughts k).size := by rw [← hE, ByteArray.size_append]
  have HR : Hid (∀ w, Calls Tryz.prog 31 #[.string (S v)] w fun e w' => e = .returned (.tuple #[.int .i64 (tiV v), .int .i64 (tiE v)]) ∧ w = w') := Lib.hid (fun w => rtoInt_S v w (by omega))
  have hti : (tiV v : Int) ≤ 9223372036854775807 := by unfold tiV maxI; split <;> omega
  have n1 : ¬ S v = ⟨#[57, 50, 50, 51, 51, 55, 50, 48, 51, 54, 56, 53, 52, 55, 55, 53, 56, 48, 56]⟩ := by
    rw [← min_S]
    intro e
    have := congrArg (fun s : ByteArray => val s.data.toList) e
    simp only [S_list, val_num] at this
    exact hm this
  have n3 : ¬ (S v).toList = [57, 50, 50, 51, 51, 55, 50, 48, 51, 54, 56, 53, 52, 55, 55, 53, 56, 48, 56] := by
    intro e
    apply n1
    apply ba_ext
    rw [ByteArray.toList_eq] at e
    exact e
  have n4 : ((S v).toList == [57, 50, 50, 51, 51, 55, 50, 48, 51, 54, 56, 53, 52, 55, 55, 53, 56, 48, 56]) = false := by rw [beq_eq_false_iff_ne]; exact n3
  have A := DC.new w true (S n) (k : Int)
  have bl : Below w.heap.size w (w.alloc (.cells #[.bool true, .string (S n), .int .i64 (k : Int)] 23)) := (Below.refl _ _).alloc (Nat.le_refl _) _
  obtain ⟨a0, a1, a2⟩ := A.cells
  have hcat : (S n).size + (noughts k).size ≤ 19 := by omega
  clear hE
  generalize noughts k = O at *
  generalize S v = T at *
  generalize tiV v = tv at *
  generalize tiE v = te at *
  generalize S n = B at *
  have hc1 : ¬ 9223372036854775807 < B.size + O.size := by omega
  have hc2 : B.size + O.size ≤ 9223372036854775807 := by omega
  clear hz hsz hcat
  go_enter Tryz.func9, Tryz.ntmps9
  go_wp2
  have P : P1 w (w.alloc (.cells #[.bool true, .string B, .int .i64 (k : Int)] 23)) true B (k : Int) := ⟨A, bl⟩
  go_region_held3 (fun (W : World) => P1 w W true B (k : Int) ∧ W.cell? ⟨w.heap.size, 0, none⟩ = some (.bool true) ∧ W.cell? ⟨w.heap.size, 1, none⟩ = some (.string B) ∧ W.cell? ⟨w.heap.size, 2, none⟩ = some (.int .i64 (k : Int))) ((first | (go_split_ands; exact P1.all (by assumption)) | (go_split_ands; exact P1.all (P1.d (by assumption))) | (go_split_ands; exact P1.all (P1.step hX (by assumption))))) (first | (go_at_call 30; (with_reducible refine (HO.out _).mono ?_); rintro e wn ⟨rfl, hX⟩))
  rename_i hH
  have A := hH.1.a
  have bl := hH.1.bel
  obtain ⟨a0, a1, a2⟩ := A.cells
  clear hH P
  rw [HE.out]
  go_wp2_with (go_at_call 31; (with_reducible refine (HR.out _).mono ?_); rintro e w3 ⟨rfl, rfl⟩)
  go_ret2
  exact ⟨rfl, bl⟩
end Go.Proofs.YtaphckipkaggkaaGreatDoor.Dec
namespace Go.Proofs.YtaphckipkaggkaaGreatDoor.Dec
open Go.RowKit
set_option linter.unusedVariables false
set_option linter.unusedSimpArgs false
open Go.Proofs.YtaphckipkaggkaaGreatDoor.Dig

theorem rto_any (g : Bool) (n : Nat) (x : Int) (w : World) (h : okD g n x) : Calls Tryz.prog 9 #[.agg #[.bool g, .string (S n), .int .i64 x]] w fun e w' => e = .returned (.tuple #[.int .i64 (tdI g n x), .int .i64 (tdE g n x)]) ∧ Below w.heap.size w w' := by
  unfold tdI tdE
  rw [← S_size]
  by_cases hx : x < 0
  · rw [if_neg (by omega), if_pos hx]
    exact rto_frac g n x w h hx
  · rw [if_neg hx]
    by_cases hl : 19 < ((S n).size : Int) + x
    · rw [if_neg (by omega), if_neg (by omega)]
      exact rto_long g n x w h (by omega) hl
    · obtain ⟨k, rfl⟩ := Int.eq_ofNat_of_zero_le (show 0 ≤ x by omega)
      rw [Int.toNat_natCast]
      have hE : S n ++ noughts k = S (n * 10 ^ k) := by
        rcases Nat.eq_zero_or_pos n with h0 | h0
        · rcases h with ⟨-, -, hk⟩ | ⟨hn, -⟩
          · obtain rfl : k = 0 := by omega
            subst h0; rfl
          · omega
        · exact mul_cat h0
      generalize n * 10 ^ k = v at *
      cases g
      · have := rto_pos n k v w hE (by omega)
        unfold inI
        by_cases hm : v ≤ 9223372036854775807
        · rw [show tiV v = v from if_pos hm, show tiE v = 0 from if_pos hm] at this
          rw [if_pos ⟨by omega, by omega, by simp [hm]⟩, if_pos ⟨by omega, by simp [hm]⟩, show sgI false v = (v : Int) from rfl]
          exact this
        · rw [show tiV v = 0 from if_neg hm, show tiE v = 2 from if_neg hm] at this
          rw [if_neg (by simp [hm]), if_neg (by simp [hm])]
          exact this
      · by_cases he : v = 9223372036854775808
        · have := rto_min n k v w hE (by omega) he
          rw [if_pos ⟨by omega, by omega, by rw [he]; rfl⟩, if_pos ⟨by omega, by rw [he]; rfl⟩, show sgI true v = -9223372036854775808 by rw [he]; rfl]
          exact this
        · have := rto_neg n k v w hE (by omega) he
          unfold inI
          by_cases hm : v ≤ 9223372036854775807
          · rw [show tiV v = v from if_pos hm, show tiE v = 0 from if_pos hm] at this
            rw [if_pos ⟨by omega, by omega, by simp [hm]⟩, if_pos ⟨by omega, by simp [hm]⟩, show sgI true v = -(v : Int) from rfl]
            exact this
          · rw [show tiV v = 0 from if_neg hm, show tiE v = 2 from if_neg hm] at this
            rw [if_neg (by simp [hm, he]), if_neg (by simp [hm, he])]
            exact this
end Go.Proofs.YtaphckipkaggkaaGreatDoor.Dec
namespace Go.Proofs.YtaphckipkaggkaaGreatDoor.Dec
open Go.RowKit
set_option linter.unusedVariables false
set_option linter.unusedSimpArgs false
open Go.Proofs.YtaphckipkaggkaaGreatDoor.Dig

def Tb (w : World) : Prop := Lib.TabIs Tryz.prog w "internal/strconv.uint64pow10" .u64 Lib.pow10Tab
theorem Tb.next {w w' : World} (h : Tb w) (hb : Below w.heap.size w w') : Tb w' :=
  Joins.tab_stays (g := 2) (by kernel_rfl) h hb (Nat.le_refl _)
/-- The variable strconv.ErrRange holds an error of some type. -/
def Er (w : World) : Prop := ∃ tp p, w.var? Tryz.prog "strconv.ErrRange" = some #[.iface tp p]
/-- Two decimals in blocks of their own. -/
structure E2 (w W : World) (a b : Nat) (g1 : Bool) (s1 : ByteArray) (x1 : Int) (g2 : Bool) (s2 : ByteArray) (x2 : Int) : Prop where
  a : DC W a g1 s1 x1
  b : DC W b g2 s2 x2
  bel : Below w.heap.size w W
section
variable {w W W' : World} {a b : Nat} {g1 g2 : Bool} {s1 s2 : ByteArray} {x1 x2 : Int}
theorem E2.d (h : E2 w W a b g1 s1 x1 g2 s2 x2) : E2 w W.drew a b g1 s1 x1 g2 s2 x2 := ⟨h.a.dr, h.b.dr, h.bel.drew⟩
theorem E2.step (hb : Below W.heap.size W W') (h : E2 w W a b g1 s1 x1 g2 s2 x2) : E2 w W' a b g1 s1 x1 g2 s2 x2 :=
  ⟨h.a.below hb h.a.lt, h.b.below hb h.b.lt, h.bel.trans (hb.mono h.bel.size)⟩
theorem E2.all (h : E2 w W a b g1 s1 x1 g2 s2 x2) : E2 w W a b g1 s1 x1 g2 s2 x2 ∧ W.cell? ⟨a, 0, none⟩ = some (.bool g1) ∧ W.cell? ⟨a, 1, none⟩ = some (.string s1) ∧ W.cell? ⟨a, 2, none⟩ = some (.int .i64 x1) ∧ W.cell? ⟨b, 0, none⟩ = some (.bool g2) ∧ W.cell? ⟨b, 1, none⟩ = some (.string s2) ∧ W.cell? ⟨b, 2, none⟩ = some (.int .i64 x2) :=
  ⟨h, h.a.cells.1, h.a.cells.2.1, h.a.cells.2.2, h.b.cells.1, h.b.cells.2.1, h.b.cells.2.2⟩
end
set_option maxRecDepth 100000 in
set_option maxHeartbeats 8000000 in
theorem ints_bad (n : Int) (g : Bool) (s : ByteArray) (x : Int) (w : World) (tp : TypeId) (p : Value) (hn : -9223372036854775808 ≤ n ∧ n ≤ 9223372036854775807) (ht : Tb w) (hv : w.var? Tryz.prog "strconv.ErrRange" = some #[.iface tp p]) (hs : s.size ≤ 9223372036854775807) (hx : -9223372036854775808 ≤ x ∧ x ≤ 9223372036854775807) (hb : vB g s x = false) : Calls Tryz.prog 3 #[.int .i64 n, .agg #[.bool g, .string s, .int .i64 x]] w fun e w' => e = .returned (.bool true) ∧ Below w.heap.size w w' := by
  have HV := Lib.hid (fun w => rdvalid_any g s x w hs hx)
  rw [hb] at HV
  clear hb
  have HL := Lib.hid lives_any
  have HF := Lib.hid (fun (w' : World) (hb : Below w.heap.size w w') => dfrom_any n w' hn (ht.next hb))
  have HR := Lib.hid (fun w => rfrom_any n w hn)
  have HT := Lib.hid (fun (w' : World) (hb : Below w.heap.size w w') => dto_any _ _ _ w' tp p (ok_nrm (decide (n < 0)) n.natAbs 0) (Joins.var_stays (g := 1) (by kernel_rfl) hv hb (Nat.le_refl _)))
  rw [(int_back hn).1, (int_back hn).2] at HT
  obtain ⟨pa, ha⟩ : ∃ a, nG (decide (n < 0)) n.natAbs 0 = a := ⟨_, rfl⟩
  obtain ⟨pb, hb⟩ : ∃ b, S (nN n.natAbs 0) = b := ⟨_, rfl⟩
  obtain ⟨pc, hc⟩ : ∃ c, nX n.natAbs 0 = c := ⟨_, rfl⟩
  rw [ha, hb, hc] at HF HR HT
  clear ha hb hc
  have A := DC.new w g s x
  have bl : Below w.heap.size w (w.alloc (.cells #[.bool g, .string s, .int .i64 x] 23)) := (Below.refl _ _).alloc (Nat.le_refl _) _
  obtain ⟨a0, a1, a2⟩ := A.cells
  clear hs hx hn ht hv
  go_enter Tryz.func3, Tryz.ntmps3
  go_wp2_with (first | (go_at_call 4; ((with_reducible refine (HF.out _ bl).mono ?_); rintro e wp ⟨rfl, hb⟩; have A := (A.below hb A.lt).alloc (.cells #[.bool pa, .string pb, .int .i64 pc] 23); have Xp := DC.new wp pa pb pc; have bl := (bl.trans (hb.mono bl.size)).alloc (Nat.le_trans bl.size hb.size) (.cells #[.bool pa, .string pb, .int .i64 pc] 23); clear hb; obtain ⟨a0, a1, a2⟩ := A.cells)) | (go_at_call 5; ((with_reducible refine (HT.out _ bl).mono ?_); rintro e wq ⟨rfl, hb⟩; have A := (A.below hb A.lt); have Xp := (Xp.below hb Xp.lt); have bl := bl.trans (hb.mono bl.size); clear hb; obtain ⟨a0, a1, a2⟩ := A.cells; obtain ⟨xp0, xp1, xp2⟩ := Xp.cells)))
  have T2 : E2 w _ w.heap.size wp.heap.size g s x pa pb pc := ⟨A, Xp, bl⟩
  go_region_held3 (fun (W : World) => E2 w W w.heap.size wp.heap.size g s x pa pb pc ∧ W.cell? ⟨w.heap.size, 0, none⟩ = some (.bool g) ∧ W.cell? ⟨w.heap.size, 1, none⟩ = some (.string s) ∧ W.cell? ⟨w.heap.size, 2, none⟩ = some (.int .i64 x) ∧ W.cell? ⟨wp.heap.size, 0, none⟩ = some (.bool pa) ∧ W.cell? ⟨wp.heap.size, 1, none⟩ = some (.string pb) ∧ W.cell? ⟨wp.heap.size, 2, none⟩ = some (.int .i64 pc)) ((first | (go_split_ands; exact E2.all (by assumption)) | (go_split_ands; exact E2.all (E2.d (by assumption))) | (go_split_ands; exact E2.all (E2.step hX (by assumption))))) (first | (go_at_call 6; (with_reducible refine (HR.out _).mono ?_); rintro e wn ⟨rfl, hX⟩))
  rename_i hH
  have T2 := hH.1
  obtain ⟨h1, h2, h3, h4, h5, h6⟩ := hH.2
  clear hH
  have bl := T2.bel
  have A := T2.a
  clear T2
  go_wp2_with (first | (go_at_call 7; ((with_reducible refine (HV.out _).mono ?_); rintro e wk ⟨rfl, hb⟩; have A := (A.below hb A.lt); have bl := bl.trans (hb.mono bl.size); clear hb; obtain ⟨a0, a1, a2⟩ := A.cells)) | (go_at_call 8; ((with_reducible refine (HL.out _).mono ?_); rintro e wk ⟨rfl, hb⟩; have bl := bl.trans (hb.mono bl.size); clear hb)))
  go_ret
  exact ⟨rfl, bl⟩
set_option maxRecDepth 100000 in
set_option maxHeartbeats 8000000 in
theorem ints_good (n : Int) (g : Bool) (k : Nat) (x : Int) (w : World) (tp : TypeId) (p : Value) (hn : -9223372036854775808 ≤ n ∧ n ≤ 9223372036854775807) (ht : Tb w) (hv : w.var? Tryz.prog "strconv.ErrRange" = some #[.iface tp p]) (h : okD g k x) : Calls Tryz.prog 3 #[.int .i64 n, .agg #[.bool g, .string (S k), .int .i64 x]] w fun e w' => e = .returned (.bool true) ∧ Below w.heap.size w w' := by
  have HV := Lib.hid (fun w => rdvalid_ok w h)
  have HD := Lib.hid (fun (w' : World) (hb : Below w.heap.size w w') => dto_any g k x w' tp p h (Joins.var_stays (g := 1) (by kernel_rfl) hv hb (Nat.le_refl _)))
  have HRD := Lib.hid (fun w => rto_any g k x w h)
  have HW := Lib.hid (fun w => whole_any g (S k) x w)
  have HRW := Lib.hid (fun w => rwhole_any g (S k) x w)
  have HA := Lib.hid (fun w => abs_any g (S k) x w)
  have HRA := Lib.hid (fun w => rabs_any g (S k) x w)
  have HN := Lib.hid (fun w => neg_any w h)
  have HRN := Lib.hid (fun w => rneg_any w h)
  have HL := Lib.hid lives_any
  have HF := Lib.hid (fun (w' : World) (hb : Below w.heap.size w w') => dfrom_any n w' hn (ht.next hb))
  have HR := Lib.hid (fun w => rfrom_any n w hn)
  have HT := Lib.hid (fun (w' : World) (hb : Below w.heap.size w w') => dto_any _ _ _ w' tp p (ok_nrm (decide (n < 0)) n.natAbs 0) (Joins.var_stays (g := 1) (by kernel_rfl) hv hb (Nat.le_refl _)))
  rw [(int_back hn).1, (int_back hn).2] at HT
  obtain ⟨pa, ha⟩ : ∃ a, nG (decide (n < 0)) n.natAbs 0 = a := ⟨_, rfl⟩
  obtain ⟨pb, hb⟩ : ∃ b, S (nN n.natAbs 0) = b := ⟨_, rfl⟩
  obtain ⟨pc, hc⟩ : ∃ c, nX n.natAbs 0 = c := ⟨_, rfl⟩
  rw [ha, hb, hc] at HF HR HT
  clear ha hb hc
  obtain ⟨ti, hti⟩ : ∃ t, tdI g k x = t := ⟨_, rfl⟩
  obtain ⟨te, hte⟩ : ∃ t, tdE g k x = t := ⟨_, rfl⟩
  obtain ⟨ng, hng⟩ : ∃ t, ngG g k = t := ⟨_, rfl⟩
  obtain ⟨dw, hdw⟩ : ∃ t, decide (0 ≤ x) = t := ⟨_, rfl⟩
  obtain ⟨s, hsk⟩ : ∃ t, S k = t := ⟨_, rfl⟩
  rw [hsk] at HV HD HRD HW HRW HA HRA HN HRN ⊢
  rw [hti, hte] at HD HRD
  rw [hng] at HN HRN
  rw [hdw] at HW HRW
  clear hti hte hng hdw hsk
  have A := DC.new w g s x
  have bl : Below w.heap.size w (w.alloc (.cells #[.bool g, .string s, .int .i64 x] 23)) := (Below.refl _ _).alloc (Nat.le_refl _) _
  obtain ⟨a0, a1, a2⟩ := A.cells
  clear hn ht hv h
  go_enter Tryz.func3, Tryz.ntmps3
  go_wp2_with (first | (go_at_call 4; ((with_reducible refine (HF.out _ bl).mono ?_); rintro e wp ⟨rfl, hb⟩; have A := (A.below hb A.lt).alloc (.cells #[.bool pa, .string pb, .int .i64 pc] 23); have Xp := DC.new wp pa pb pc; have bl := (bl.trans (hb.mono bl.size)).alloc (Nat.le_trans bl.size hb.size) (.cells #[.bool pa, .string pb, .int .i64 pc] 23); clear hb; obtain ⟨a0, a1, a2⟩ := A.cells)) | (go_at_call 5; ((with_reducible refine (HT.out _ bl).mono ?_); rintro e wq ⟨rfl, hb⟩; have A := (A.below hb A.lt); have Xp := (Xp.below hb Xp.lt); have bl := bl.trans (hb.mono bl.size); clear hb; obtain ⟨a0, a1, a2⟩ := A.cells; obtain ⟨xp0, xp1, xp2⟩ := Xp.cells)))
  have T2 : E2 w _ w.heap.size wp.heap.size g s x pa pb pc := ⟨A, Xp, bl⟩
  go_region_held3 (fun (W : World) => E2 w W w.heap.size wp.heap.size g s x pa pb pc ∧ W.cell? ⟨w.heap.size, 0, none⟩ = some (.bool g) ∧ W.cell? ⟨w.heap.size, 1, none⟩ = some (.string s) ∧ W.cell? ⟨w.heap.size, 2, none⟩ = some (.int .i64 x) ∧ W.cell? ⟨wp.heap.size, 0, none⟩ = some (.bool pa) ∧ W.cell? ⟨wp.heap.size, 1, none⟩ = some (.string pb) ∧ W.cell? ⟨wp.heap.size, 2, none⟩ = some (.int .i64 pc)) ((first | (go_split_ands; exact E2.all (by assumption)) | (go_split_ands; exact E2.all (E2.d (by assumption))) | (go_split_ands; exact E2.all (E2.step hX (by assumption))))) (first | (go_at_call 6; (with_reducible refine (HR.out _).mono ?_); rintro e wn ⟨rfl, hX⟩))
  rename_i hH
  have T2 := hH.1
  obtain ⟨h1, h2, h3, h4, h5, h6⟩ := hH.2
  clear hH
  have bl := T2.bel
  have A := T2.a
  have B := T2.b
  clear T2
  go_wp2_with (first | (go_at_call 7; ((with_reducible refine (HV.out _).mono ?_); rintro e wk ⟨rfl, hb⟩; have A := (A.below hb A.lt); have B := (B.below hb B.lt); have bl := bl.trans (hb.mono bl.size); clear hb; obtain ⟨a0, a1, a2⟩ := A.cells; obtain ⟨b0, b1, b2⟩ := B.cells)) | (go_at_call 5; ((with_reducible refine (HD.out _ bl).mono ?_); rintro e wk ⟨rfl, hb⟩; have A := (A.below hb A.lt); have B := (B.below hb B.lt); have bl := bl.trans (hb.mono bl.size); clear hb; obtain ⟨a0, a1, a2⟩ := A.cells; obtain ⟨b0, b1, b2⟩ := B.cells)) | (go_at_call 9; ((with_reducible refine (HRD.out _).mono ?_); rintro e wk ⟨rfl, hb⟩; have A := (A.below hb A.lt); have B := (B.below hb B.lt); have bl := bl.trans (hb.mono bl.size); clear hb; obtain ⟨a0, a1, a2⟩ := A.cells; obtain ⟨b0, b1, b2⟩ := B.cells)))
  have T2 : E2 w _ w.heap.size wp.heap.size g s x pa pb pc := ⟨A, B, bl⟩
  go_region_held3 (fun (W : World) => E2 w W w.heap.size wp.heap.size g s x pa pb pc ∧ W.cell? ⟨w.heap.size, 0, none⟩ = some (.bool g) ∧ W.cell? ⟨w.heap.size, 1, none⟩ = some (.string s) ∧ W.cell? ⟨w.heap.size, 2, none⟩ = some (.int .i64 x) ∧ W.cell? ⟨wp.heap.size, 0, none⟩ = some (.bool pa) ∧ W.cell? ⟨wp.heap.size, 1, none⟩ = some (.string pb) ∧ W.cell? ⟨wp.heap.size, 2, none⟩ = some (.int .i64 pc)) ((first | (go_split_ands; exact E2.all (by assumption)) | (go_split_ands; exact E2.all (E2.d (by assumption))) | (go_split_ands; exact E2.all (E2.step hX (by assumption))))) (first | (go_at_call 10; (with_reducible refine (HW.out _).mono ?_); rintro e wn ⟨rfl, hX⟩) | (go_at_call 11; (with_reducible refine (HRW.out _).mono ?_); rintro e wn ⟨rfl, hX⟩) | (go_at_call 12; (with_reducible refine (HN.out _).mono ?_); rintro e wn ⟨rfl, hX⟩) | (go_at_call 13; (with_reducible refine (HRN.out _).mono ?_); rintro e wn ⟨rfl, hX⟩) | (go_at_call 14; (with_reducible refine (HA.out _).mono ?_); rintro e wn ⟨rfl, hX⟩) | (go_at_call 15; (with_reducible refine (HRA.out _).mono ?_); rintro e wn ⟨rfl, hX⟩) | (go_at_call 8; (with_reducible refine (HL.out _).mono ?_); rintro e wn ⟨rfl, hX⟩))
  rename_i hH
  have bl9 := hH.1.bel
  clear hH
  go_wp2
  go_ret
  exact ⟨rfl, bl9⟩
theorem ints_walk (n : Int) (g : Bool) (s : ByteArray) (x : Int) (w : World) (hn : -9223372036854775808 ≤ n ∧ n ≤ 9223372036854775807) (ht : Tb w) (hv : Er w) (hs : s.size ≤ maxLen) (hx : -9223372036854775808 ≤ x ∧ x ≤ 9223372036854775807) : Calls Tryz.prog 3 #[.int .i64 n, .agg #[.bool g, .string s, .int .i64 x]] w fun e w' => e = .returned (.bool true) ∧ Below w.heap.size w w' := by
  have hs2 : s.size ≤ 9223372036854775807 := by unfold maxLen at hs; omega
  obtain ⟨tp, p, hv⟩ := hv
  cases hb : vB g s x with
  | false => exact ints_bad n g s x w tp p hn ht hv hs2 hx hb
  | true =>
    obtain ⟨k, rfl, h⟩ := vB_ok hb
    exact ints_good n g k x w tp p hn ht hv h
end Go.Proofs.YtaphckipkaggkaaGreatDoor.Dec
namespace Go.Proofs.YtaphckipkaggkaaGreatDoor.Dec
open Go.RowKit
set_option linter.unusedVariables false
set_option linter.unusedSimpArgs false
open Go.Proofs.YtaphckipkaggkaaGreatDoor.Dig

theorem er_of {W : World} {L : List (String × DataW Unit)} {d : DataW Unit} {nm : String} {x : DataW Unit} (h : laidMetH Tryz.prog L W) (hp : laidMetH Tryz.prog L W = laidMet Tryz.prog L W) (hm : ("strconv.ErrRange", d) ∈ L) (hd : d = .iface nm x) : Er W := by
  obtain ⟨g', t', cs, fuel, p, hg', ht', hvar, h2⟩ := Lib.laidMet.reads (hp ▸ h) hm
  subst hd
  obtain rfl := Option.some.inj ((show Tryz.prog.globalNamed "strconv.ErrRange" = some 1 by kernel_rfl).symm.trans hg')
  obtain rfl := Option.some.inj ((show (Tryz.prog.globals[1]?).map (·.type) = some 40 by kernel_rfl).symm.trans ht')
  obtain ⟨l⟩ := cs
  cases fuel with
  | zero => simp [DataW.trod] at h2
  | succ fuel =>
    simp only [DataW.trod, Tryz.underlying40] at h2
    split at h2
    all_goals try (exfalso; simp_all; done)
    all_goals exact ⟨_, _, hvar⟩
end Go.Proofs.YtaphckipkaggkaaGreatDoor.Dec
