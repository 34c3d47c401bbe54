/-
  Package decimal: the law DecimalTexts.
-/
import Derived.Test.YtaikmelefllgpaaDoorDecCC
namespace Go.Proofs.YtaikmelefllgpaaDoor.Dec
open Go.RowKit
set_option linter.unusedVariables false
set_option linter.unusedSimpArgs false
open Go.Proofs.YtaikmelefllgpaaDoor.Dig

def Tb (w : World) : Prop := Lib.TabIs Tryd.prog w "internal/strconv.uint64pow10" .u64 Lib.pow10Tab
theorem Tb.next {w w' : World} (h : Tb w) (hb : Below w.heap.size w w') : Tb w' :=
  Joins.tab_stays (g := 3) (by kernel_rfl) h hb (Nat.le_refl _)
theorem absL_len2 {n : Nat} {x : Int} (hl : (num n).length ≤ 120) (hx : -400 ≤ x ∧ x ≤ 400) : (absL n x).length ≤ 900 := by
  unfold absL
  split
  · rw [List.length_append, List.length_replicate]; omega
  · split
    · rw [List.length_append, List.length_cons, List.length_take, List.length_drop]; omega
    · split
      · rw [List.length_cons, List.length_cons, List.length_append, List.length_replicate]; omega
      · have hq : ((num n).length : Int) + x - 1 ≠ 0 := by omega
        have := itoa_len _ hq (by omega)
        rw [List.length_append, List.length_append, List.length_cons, List.length_take]
        split
        · rw [List.length_cons, List.length_drop]; omega
        · simp only [List.length_nil]; omega
theorem text_any (g : Bool) (n : Nat) (x : Int) (w : World) (h : okD g n x) (ht : Tb w) : Calls Tryd.prog 16 #[.agg #[.bool g, .string (S n), .int .i64 x]] w fun e w' => e = .returned (.string (textS g n x)) ∧ Below w.heap.size w w' := by
  rcases Nat.eq_zero_or_pos n with h0 | h0
  · exact text_zero g n x w h h0
  · exact text_pos g n x w h h0 (fun w' hb => ht.next hb)
theorem rtext_all (g : Bool) (n : Nat) (x : Int) (w : World) (h : okD g n x) : Calls Tryd.prog 18 #[.agg #[.bool g, .string (S n), .int .i64 x]] w fun e w' => e = .returned (.string (textS g n x)) ∧ Below w.heap.size w w' := by
  rcases Nat.eq_zero_or_pos n with h0 | h0
  · subst h0
    exact rtext_zero x g w
  · exact rtext_any g n x w h h0
theorem textL_len {g : Bool} {n : Nat} {x : Int} (h : okD g n x) : (textL g n x).length ≤ 1000 := by
  unfold textL
  split
  · simp
  · have hq : (num n).length ≤ 120 ∧ -400 ≤ x ∧ x ≤ 400 := by
      rcases h with ⟨h1, -⟩ | ⟨-, -, a, b, c⟩
      · omega
      · exact ⟨a, b, c⟩
    have h2 := absL_len2 hq.1 hq.2
    split
    · rw [List.length_cons]; omega
    · omega
set_option maxRecDepth 100000 in
set_option maxHeartbeats 4000000 in
theorem texts_bad (g : Bool) (s : ByteArray) (x : Int) (w : World) (hs : s.size ≤ 9223372036854775807) (hx : -9223372036854775808 ≤ x ∧ x ≤ 9223372036854775807) (hv : vB g s x = false) : Calls Tryd.prog 5 #[.agg #[.bool g, .string s, .int .i64 x]] w fun e w' => e = .returned (.bool true) ∧ Below w.heap.size w w' := by
  have HL := Lib.hid lives_any
  have HV := Lib.hid (fun w => rdvalid_any g s x w hs hx)
  rw [hv] at HV
  have A := DC.new w g s x
  have bl : Below w.heap.size w (w.alloc (.cells #[.bool g, .string s, .int .i64 x] 23)) := (Below.refl _ _).alloc (Nat.le_refl _) _
  obtain ⟨a0, a1, a2⟩ := A.cells
  clear hs hx hv
  go_enter Tryd.func5, Tryd.ntmps5
  go_wp2_with (first | (go_at_call 6; (with_reducible refine (HV.out _).mono ?_); rintro e w1 ⟨rfl, hX⟩; have bl := bl.trans (hX.mono bl.size); clear hX) | (go_at_call 7; (with_reducible refine (HL.out _).mono ?_); rintro e w2 ⟨rfl, hX⟩; have bl := bl.trans (hX.mono bl.size); clear hX))
  go_ret
  exact ⟨rfl, bl⟩
set_option maxRecDepth 100000 in
set_option maxHeartbeats 4000000 in
theorem texts_good (g : Bool) (n : Nat) (x : Int) (w : World) (h : okD g n x) (ht : Tb w) : Calls Tryd.prog 5 #[.agg #[.bool g, .string (S n), .int .i64 x]] w fun e w' => e = .returned (.bool true) ∧ Below w.heap.size w w' := by
  have HL := Lib.hid lives_any
  have HV := Lib.hid (fun w => rdvalid_ok w h)
  have HT := Lib.hid (fun (w' : World) (hb : Below w.heap.size w w') => text_any g n x w' h (ht.next hb))
  have HR := Lib.hid (fun w => rtext_all g n x w h)
  have hl : (textS g n x).size ≤ 1000 := by
    have h2 := textL_len h
    have h3 : (textL g n x).toArray.size = (textL g n x).length := by simp
    show (textL g n x).toArray.size ≤ 1000
    omega
  have HP : Hid (∀ w, Calls Tryd.prog 17 #[.string (textS g n x)] w fun e w' => e = .returned (.tuple #[.agg #[.bool g, .string (S n), .int .i64 x], .int .i64 0]) ∧ Below w.heap.size w w') := Lib.hid (fun w => by
    have := dparse_any (textS g n x) w hl
    rw [show (textS g n x).data.toList = textL g n x from List.toList_toArray .., prs_text h _ (by decide)] at this
    exact this)
  obtain ⟨t, hT⟩ : ∃ t, textS g n x = t := ⟨_, rfl⟩
  obtain ⟨s, hS⟩ : ∃ s, S n = s := ⟨_, rfl⟩
  rw [hT, hS] at HP HR
  rw [hT, hS] at HT
  rw [hS] at HV ⊢
  clear hl hT hS ht h
  have A := DC.new w g s x
  have bl : Below w.heap.size w (w.alloc (.cells #[.bool g, .string s, .int .i64 x] 23)) := (Below.refl _ _).alloc (Nat.le_refl _) _
  obtain ⟨a0, a1, a2⟩ := A.cells
  go_enter Tryd.func5, Tryd.ntmps5
  go_wp2_with (first | (go_at_call 6; (with_reducible refine (HV.out _).mono ?_); rintro e w1 ⟨rfl, hX⟩; have A := A.below hX A.lt; have bl := bl.trans (hX.mono bl.size); clear hX; obtain ⟨a0, a1, a2⟩ := A.cells) | (go_at_call 16; (with_reducible refine (HT.out _ bl).mono ?_); rintro e w2 ⟨rfl, hX⟩; have A := A.below hX A.lt; have bl := bl.trans (hX.mono bl.size); clear hX; obtain ⟨a0, a1, a2⟩ := A.cells) | (go_at_call 17; (with_reducible refine (HP.out _).mono ?_); rintro e w3 ⟨rfl, hX⟩; have A := (A.below hX A.lt).alloc (.cells #[.bool g, .string s, .int .i64 x] 23); have B := DC.new w3 g s x; have bl := (bl.trans (hX.mono bl.size)).alloc (Nat.le_trans bl.size hX.size) (.cells #[.bool g, .string s, .int .i64 x] 23); clear hX; obtain ⟨a0, a1, a2⟩ := A.cells; obtain ⟨b0, b1, b2⟩ := B.cells) | (go_at_call 18; (with_reducible refine (HR.out _).mono ?_); rintro e w4 ⟨rfl, hX⟩; have A := A.below hX A.lt; have B := B.below hX B.lt; have bl := bl.trans (hX.mono bl.size); clear hX; obtain ⟨a0, a1, a2⟩ := A.cells; obtain ⟨b0, b1, b2⟩ := B.cells) | (go_at_call 7; (with_reducible refine (HL.out _).mono ?_); rintro e w5 ⟨rfl, hX⟩; have bl := bl.trans (hX.mono bl.size); clear hX))
  go_ret
  exact ⟨rfl, bl⟩
theorem texts_walk (g : Bool) (s : ByteArray) (x : Int) (w : World) (ht : Tb w) (hs : s.size ≤ maxLen) (hx : -9223372036854775808 ≤ x ∧ x ≤ 9223372036854775807) : Calls Tryd.prog 5 #[.agg #[.bool g, .string s, .int .i64 x]] w fun e w' => e = .returned (.bool true) ∧ Below w.heap.size w w' := by
  have hs2 : s.size ≤ 9223372036854775807 := by unfold maxLen at hs; omega
  cases hv : vB g s x with
  | false => exact texts_bad g s x w hs2 hx hv
  | true =>
    obtain ⟨n, rfl, h⟩ := vB_ok hv
    exact texts_good g n x w h ht
end Go.Proofs.YtaikmelefllgpaaDoor.Dec
