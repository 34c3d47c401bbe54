/-
  Contracts of package window and its reference: finding a byte.
-/
import Derived.Test.YtmmgfbnfjcbcfaaWinQ
import Derived.Test.YtmmgfbnfjcbcfaaShelf
import Derived.Lib.Bytes
namespace Go.Proofs.Ytmmgfbnfjcbcfaa.Win
open Go.RowKit
set_option linter.unusedVariables false
set_option linter.unusedSimpArgs false

theorem index_first {l : List UInt8} {c : UInt8} {j : Nat} (hj : l[j]? = some c) (h : ∀ i, i < j → l[i]? ≠ some c) : Lib.indexByte l c = (j : Int) := by
  induction l generalizing j with
  | nil => simp at hj
  | cons b t ih =>
    unfold Lib.indexByte
    cases j with
    | zero =>
      have : b = c := by simpa using hj
      rw [if_pos (by simpa using this)]; rfl
    | succ j =>
      have hb : ¬ b = c := by have := h 0 (by omega); simpa using this
      rw [if_neg (by simpa using hb), ih (j := j) (by simpa using hj) (fun i hi => by have := h (i + 1) (by omega); simpa using this), if_neg (by simp; try omega)]
      rfl
theorem index_none {l : List UInt8} {c : UInt8} (h : ∀ i : Nat, l[i]? ≠ some c) : Lib.indexByte l c = -1 := by
  induction l with
  | nil => rfl
  | cons b t ih =>
    unfold Lib.indexByte
    have hb : ¬ b = c := by have := h 0; simpa using this
    rw [if_neg (by simpa using hb), ih (fun i => by have := h (i + 1); simpa using this)]
    rfl
theorem index_lt (l : List UInt8) (c : UInt8) : Lib.indexByte l c < l.length ∧ -1 ≤ Lib.indexByte l c := by
  refine ⟨?_, Lib.indexByte_ge l c⟩
  induction l with
  | nil => exact (show (-1 : Int) < 0 by decide)
  | cons b t ih =>
    unfold Lib.indexByte
    rw [List.length_cons]
    split
    · omega
    · split <;> omega
/-- What is found. -/
def fres (l : List UInt8) (b f : Int) : Int × Bool := if 0 ≤ f ∧ f < l.length ∧ 0 ≤ b ∧ b ≤ 255 ∧ Lib.indexByte (l.drop f.toNat) b.toNat.toUInt8 ≠ -1 then (f + Lib.indexByte (l.drop f.toNat) b.toNat.toUInt8, true) else (0, false)
theorem fres_hit {t : ByteArray} {b f : Int} {k : Nat} (hk : k < t.size) (h0 : 0 ≤ f) (h1 : f ≤ k) (hb : ((t[k]'hk).toNat : Int) = b) (hn : ∀ i (hi : i < t.size), i < k → f ≤ i → ((t[i]'hi).toNat : Int) ≠ b) : fres t.data.toList b f = ((k : Int), true) := by
  obtain ⟨m, rfl⟩ := Int.eq_ofNat_of_zero_le h0
  have hx := UInt8.toNat_lt (t[k]'hk)
  have hc : b.toNat.toUInt8 = t[k]'hk := by rw [← hb, Int.toNat_natCast]; exact UInt8.ofNat_toNat
  have hsz : t.data.toList.length = t.size := rfl
  have e : Lib.indexByte (t.data.toList.drop m) (t[k]'hk) = ((k - m : Nat) : Int) := by
    refine index_first (j := k - m) ?_ fun i hi => ?_
    · rw [List.getElem?_drop, Nat.add_sub_cancel' (by omega), List.getElem?_eq_getElem (by omega)]; rfl
    · rw [List.getElem?_drop, List.getElem?_eq_getElem (by omega)]
      intro e
      have e' : t[m + i]'(by omega) = t[k]'hk := Option.some.inj e
      exact hn (m + i) (by omega) (by omega) (by omega) (by rw [e']; exact hb)
  unfold fres
  rw [Int.toNat_natCast, hc, e, if_pos ⟨h0, by omega, by omega, by omega, by omega⟩]
  congr 1; omega
theorem fres_none {t : ByteArray} {b f : Int} (hn : ∀ i (hi : i < t.size), 0 ≤ f → f ≤ i → ((t[i]'hi).toNat : Int) ≠ b) : fres t.data.toList b f = (0, false) := by
  unfold fres
  rw [if_neg]
  rintro ⟨h0, h1, h2, h3, h4⟩
  obtain ⟨m, rfl⟩ := Int.eq_ofNat_of_zero_le h0
  refine h4 (index_none fun i => ?_)
  rw [Int.toNat_natCast, List.getElem?_drop]
  rcases Nat.lt_or_ge (m + i) t.size with h | h
  · rw [List.getElem?_eq_getElem (by exact h)]
    intro e
    have e' : t[m + i]'h = b.toNat.toUInt8 := Option.some.inj e
    refine hn (m + i) h h0 (by omega) ?_
    rw [e']
    have : (b.toNat.toUInt8).toNat = b.toNat := by
      show b.toNat % 256 = b.toNat
      omega
    omega
  · rw [List.getElem?_eq_none (by exact h)]; simp
set_option maxRecDepth 100000 in
set_option maxHeartbeats 2000000 in
theorem rfind_any (sz off : Nat) (b f : Int) (t : ByteArray) (cl : Bool) (w : World) (hs : t.size ≤ 65536) (hb : -9223372036854775808 ≤ b ∧ b ≤ 9223372036854775807) (hf : -9223372036854775808 ≤ f ∧ f ≤ 9223372036854775807) : Calls Try.prog 19 #[.agg #[.int .i64 sz, .int .i64 off, .string t, .bool cl], .int .i64 b, .int .i64 f] w fun e w' => e = .returned (.tuple #[.int .i64 (fres t.data.toList b f).1, .bool (fres t.data.toList b f).2]) ∧ Below w.heap.size w w' := by
  have HS0 := Lib.hid (SC.new w sz off t cl)
  go_enter Try.func19, Try.ntmps19
  go_wp2
  go_loopw [8] (fun i wr => ∃ k : Nat, k ≤ t.size ∧ i = .int .i64 k ∧ Hid (∀ i (hi : i < t.size), i < k → 0 ≤ f → f ≤ i → ((t[i]'hi).toNat : Int) ≠ b) ∧ Hid (SC wr w.heap.size sz off t cl) ∧ Below w.heap.size w wr) (fun i _ => t.size - (intOf i).toNat)
  case atStart => exact ⟨0, Nat.zero_le _, rfl, Lib.hid fun i _ h => by omega, HS0, (Below.refl _ _).alloc (Nat.le_refl _) _⟩
  case round =>
    obtain ⟨k, hk, rfl, HN, HSC, bel⟩ := hrel
    have c2 := HSC.out.cells.2.2.1
    by_cases hlt : k < t.size
    · by_cases g : f ≤ k ∧ 0 ≤ f ∧ ((t[k]'hlt).toNat : Int) = b
      · obtain ⟨g1, g2, g3⟩ := g
        have HR := Lib.hid (fres_hit hlt g2 g1 g3 (fun i hi h1 h2 => HN.out i hi h1 g2 h2))
        have q : (((t[k]'hlt).toNat : Int) == b) = true := by simpa using g3
        have hx := UInt8.toNat_lt (t[k]'hlt)
        clear g3
        go_wp2
        go_ret2
        exact ⟨by rw [HR.out]; rfl, bel⟩
      · have HN' : Hid (∀ i (hi : i < t.size), i < k + 1 → 0 ≤ f → f ≤ i → ((t[i]'hi).toNat : Int) ≠ b) := Lib.hid fun i hi h1 h2 h3 => by
          by_cases e : i = k
          · subst e; exact fun h => g ⟨h3, h2, h⟩
          · exact HN.out i hi (by omega) h2 h3
        have hx := UInt8.toNat_lt (t[k]'hlt)
        have hw : (k : Int) < f ∨ (f ≤ k ∧ f < 0) ∨ (f ≤ k ∧ 0 ≤ f ∧ (((t[k]'hlt).toNat : Int) == b) = false) := by
          by_cases g1 : f ≤ k
          · by_cases g2 : 0 ≤ f
            · exact .inr (.inr ⟨g1, g2, by rw [beq_eq_false_iff_ne]; exact fun h => g ⟨g1, g2, h⟩⟩)
            · exact .inr (.inl ⟨g1, by omega⟩)
          · exact .inl (by omega)
        clear g
        rcases hw with g1 | ⟨g1, g2⟩ | ⟨g1, g2, g3⟩
        all_goals
          go_wp2
          go_roundw
          case rel => exact ⟨k + 1, hlt, rfl, HN', HSC, bel⟩
          case measure => simp [intOf]; omega
    · have HR := Lib.hid (fres_none (t := t) (b := b) (f := f) (fun i hi h1 h2 => HN.out i hi (by omega) h1 h2))
      go_wp2
      go_ret2
      exact ⟨by rw [HR.out]; rfl, bel⟩
end Go.Proofs.Ytmmgfbnfjcbcfaa.Win
