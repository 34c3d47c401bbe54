/-
  Plain facts on UTF-8: valid strings, characters counted, offsets of characters. No program.
-/
import Derived.Test.YtiodnncpgdiejaaDoorUtfB
import Derived.Lib.ValidLaws
import Derived.Lib.RuneCount
namespace Go.Proofs.YtiodnncpgdiejaaDoor.Utf

theorem decodeL_eq (l : List UInt8) : Lib.decodeL l = Lib.decodeN l.length (nth l 0) (nth l 1) (nth l 2) (nth l 3) := by
  unfold Lib.decodeL
  exact decode_list ⟨l.toArray⟩
theorem decodeL_hd {l : List UInt8} (hne : l ≠ []) : ((Lib.decodeL l).1 = 65533 ∧ (Lib.decodeL l).2 = 1 ∧ hd l = (0, 0)) ∨ (¬ ((Lib.decodeL l).1 = 65533 ∧ (Lib.decodeL l).2 = 1) ∧ Lib.decodeL l = hd l ∧ (hd l).2 ≠ 0) := by
  have hlen : 0 < l.length := List.length_pos_iff.2 hne
  rw [decodeL_eq]
  by_cases hb : Lib.decodeN l.length (nth l 0) (nth l 1) (nth l 2) (nth l 3) = (65533, 1)
  · left
    rw [hb]
    exact ⟨rfl, rfl, by unfold hd dec; rw [if_pos (.inr hb)]⟩
  · right
    have eh : hd l = Lib.decodeN l.length (nth l 0) (nth l 1) (nth l 2) (nth l 3) := by unfold hd dec; rw [if_neg (by rintro (h | h); omega; exact hb h)]
    refine ⟨fun h => hb (Prod.ext h.1 h.2), eh.symm, ?_⟩
    rw [eh, ← decodeL_eq]
    have := Lib.decodeL_width l
    omega
theorem valid_step {l : List UInt8} (hne : l ≠ []) : Lib.validD l = if (hd l).2 = 0 then false else Lib.validD (l.drop (hd l).2) := by
  rw [Lib.validD_step l hne]
  rcases decodeL_hd hne with ⟨h1, h2, h3⟩ | ⟨h1, h2, h3⟩
  · rw [if_pos ⟨h1, h2⟩, h3]; rfl
  · rw [if_neg h1, if_neg h3, h2]
/-- So many characters (of a valid string). -/
def nch (l : List UInt8) : Nat := Lib.runeCount ⟨l.toArray⟩
theorem nch_nil : nch [] = 0 := rfl
theorem nch_step {l : List UInt8} (hne : l ≠ []) : nch l = 1 + nch (l.drop (Lib.decodeL l).2) := by
  have hlen : 0 < l.length := List.length_pos_iff.2 hne
  have hsz : (⟨l.toArray⟩ : ByteArray).size = l.length := by simp [ByteArray.size]
  obtain ⟨n, hn⟩ : ∃ n, l.length = n + 1 := ⟨l.length - 1, by omega⟩
  have ht : (⟨(l.drop (Lib.decodeL l).2).toArray⟩ : ByteArray) = (⟨l.toArray⟩ : ByteArray).extract (Lib.decodeL l).2 (⟨l.toArray⟩ : ByteArray).size := ba_ext (by rw [ext_drop])
  have hw := Lib.decodeL_width l
  unfold nch
  rw [ht]
  unfold Lib.runeCount
  rw [hsz, hn]
  show (if 0 < (⟨l.toArray⟩ : ByteArray).size then 1 + Lib.runeCountFrom ⟨l.toArray⟩ n (0 + (Utf8.decode ⟨l.toArray⟩ 0).2) else 0) = _
  rw [if_pos (by omega), Nat.zero_add]
  show 1 + Lib.runeCountFrom ⟨l.toArray⟩ n (Lib.decodeL l).2 = _
  rw [← hn, ← hsz, Lib.tail_count, Nat.add_zero]
  congr 1
  refine Lib.fuel_enough _ _ _ _ ?_ ?_
  · rw [hsz]; omega
  · rw [Lib.tail_size]; omega
theorem nch_le (l : List UInt8) : nch l ≤ l.length := by
  have := Lib.runeCount_le ⟨l.toArray⟩
  simpa [nch, ByteArray.size] using this
theorem valid_hd {l : List UInt8} (h : Lib.validD l = true) (hne : l ≠ []) : (hd l).2 ≠ 0 ∧ Lib.validD (l.drop (hd l).2) = true ∧ nch l = 1 + nch (l.drop (hd l).2) := by
  rw [valid_step hne] at h
  split at h
  · cases h
  · next h0 =>
    refine ⟨h0, h, ?_⟩
    rcases decodeL_hd hne with ⟨_, _, h3⟩ | ⟨_, h2, _⟩
    · rw [h3] at h0; exact absurd rfl h0
    · rw [nch_step hne, h2]
/-- The offset of character number k. -/
def off (l : List UInt8) : Nat → Nat
  | 0 => 0
  | k + 1 => off l k + (hd (l.drop (off l k))).2
theorem off_step (l : List UInt8) (k : Nat) : off l (k + 1) = (hd l).2 + off (l.drop (hd l).2) k := by
  induction k with
  | zero => simp [off]
  | succ k ih =>
    conv => lhs; unfold off
    rw [ih, off, List.drop_drop, Nat.add_assoc]
theorem hd_le (l : List UInt8) : (hd l).2 ≤ l.length := by
  obtain ⟨r, k, h⟩ : ∃ r k, hd l = (r, k) := ⟨_, _, rfl⟩
  by_cases hk : k = 0
  · rw [h, hk]; exact Nat.zero_le _
  · rw [h]; exact (hd_some h hk).2.1
theorem off_le (l : List UInt8) (k : Nat) : off l k ≤ l.length := by
  induction k with
  | zero => exact Nat.zero_le _
  | succ k ih =>
    have := hd_le (l.drop (off l k))
    rw [List.length_drop] at this
    simp only [off]; omega
theorem off_rest {l : List UInt8} (h : Lib.validD l = true) {k : Nat} (hk : k ≤ nch l) : Lib.validD (l.drop (off l k)) = true ∧ nch (l.drop (off l k)) = nch l - k := by
  induction k with
  | zero => exact ⟨by simpa [off] using h, by simp [off]⟩
  | succ k ih =>
    obtain ⟨h1, h2⟩ := ih (by omega)
    have hne : l.drop (off l k) ≠ [] := by intro e; rw [e, nch_nil] at h2; omega
    obtain ⟨_, g2, g3⟩ := valid_hd h1 hne
    rw [List.drop_drop] at g2 g3
    simp only [off]
    exact ⟨g2, by omega⟩
theorem nch_pos {l : List UInt8} (hne : l ≠ []) : 0 < nch l := by rw [nch_step hne]; omega
theorem off_all {l : List UInt8} (h : Lib.validD l = true) : off l (nch l) = l.length := by
  have := (off_rest h (Nat.le_refl _)).2
  rw [Nat.sub_self] at this
  have hle := off_le l (nch l)
  by_cases hne : l.drop (off l (nch l)) = []
  · have := congrArg List.length hne
    rw [List.length_drop] at this
    simp at this; omega
  · have := nch_pos hne; omega
theorem off_lt {l : List UInt8} (h : Lib.validD l = true) {k : Nat} (hk : k < nch l) : off l k < l.length ∧ (hd (l.drop (off l k))).2 ≠ 0 := by
  obtain ⟨h1, h2⟩ := off_rest h (Nat.le_of_lt hk)
  have hne : l.drop (off l k) ≠ [] := by intro e; rw [e, nch_nil] at h2; omega
  obtain ⟨g1, _, _⟩ := valid_hd h1 hne
  refine ⟨?_, g1⟩
  have := List.length_pos_iff.2 hne
  rw [List.length_drop] at this; omega
theorem off_add (l : List UInt8) (a b : Nat) : off l (a + b) = off l a + off (l.drop (off l a)) b := by
  induction b with
  | zero => rfl
  | succ b ih =>
    have e : off l (a + (b + 1)) = off l (a + b) + (hd (l.drop (off l (a + b)))).2 := rfl
    rw [e, ih]
    simp only [off]
    rw [List.drop_drop, Nat.add_assoc]
/-- The first k characters are a valid string of k characters. -/
theorem off_take {l : List UInt8} (h : Lib.validD l = true) {k : Nat} (hk : k ≤ nch l) : Lib.validD (l.take (off l k)) = true ∧ nch (l.take (off l k)) = k := by
  induction k generalizing l with
  | zero => exact ⟨by simp [off, Lib.validD_nil], by simp [off, nch_nil]⟩
  | succ k ih =>
    have hne : l ≠ [] := by rintro rfl; rw [nch_nil] at hk; omega
    obtain ⟨g1, g2, g3⟩ := valid_hd h hne
    obtain ⟨r, j, hrj⟩ : ∃ r j, hd l = (r, j) := ⟨_, _, rfl⟩
    rw [hrj] at g1 g2 g3
    obtain ⟨c1, c2, c3, c4⟩ := hd_some hrj g1
    obtain ⟨i1, i2⟩ := ih g2 (by have g3' : nch l = 1 + nch (l.drop j) := g3; omega)
    have e : l.take (off l (k + 1)) = enc r ++ (l.drop j).take (off (l.drop j) k) := by
      rw [off_step, hrj, c3, List.take_add]
    have hh := hd_enc c1 ((l.drop j).take (off (l.drop j) k))
    rw [← e, c4] at hh
    have hne2 : l.take (off l (k + 1)) ≠ [] := by
      rw [e]; intro e2
      have := congrArg List.length e2
      rw [List.length_append, c4] at this
      simp at this; omega
    have hd2 : (l.take (off l (k + 1))).drop j = (l.drop j).take (off (l.drop j) k) := by
      rw [e, ← c4, List.drop_left]
    have v : Lib.validD (l.take (off l (k + 1))) = true := by
      rw [valid_step hne2, hh, if_neg g1, hd2]; exact i1
    refine ⟨v, ?_⟩
    obtain ⟨_, _, n3⟩ := valid_hd v hne2
    rw [n3, hh, hd2, i2]; omega
/-- One character alone. -/
theorem one_char {r : Nat} (hc : chr r = true) : Lib.validD (enc r) = true ∧ nch (enc r) = 1 := by
  have hh := hd_enc hc []
  rw [List.append_nil] at hh
  have hl : (enc r).length ≠ 0 := by
    rw [enc_len]
    repeat' split
    all_goals omega
  have hne : enc r ≠ [] := by intro e; rw [e] at hl; exact hl rfl
  have v : Lib.validD (enc r) = true := by
    rw [valid_step hne, hh, if_neg hl, List.drop_length]; exact Lib.validD_nil
  refine ⟨v, ?_⟩
  obtain ⟨_, _, n3⟩ := valid_hd v hne
  rw [n3, hh, List.drop_length, nch_nil]
end Go.Proofs.YtiodnncpgdiejaaDoor.Utf
