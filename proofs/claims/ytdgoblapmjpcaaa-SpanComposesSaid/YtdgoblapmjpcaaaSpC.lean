/-
  Contracts of package span and its reference: texts edited.
-/
import Derived.Test.YtdgoblapmjpcaaaSpB
import Derived.Test.YtdgoblapmjpcaaaBuiWS
namespace Go.Proofs.Ytdgoblapmjpcaaa.Sp
open Go.RowKit
set_option linter.unusedVariables false
set_option linter.unusedSimpArgs false
open RO

theorem ba_ext {a b : ByteArray} (h : a.data.toList = b.data.toList) : a = b := by
  cases a; cases b; congr 1; exact Array.ext' h
theorem toList_data (s : ByteArray) : s.toList = s.data.toList := by
  obtain ⟨⟨l⟩⟩ := s; exact ByteArray.toList_mk l
theorem size_list (s : ByteArray) : s.data.toList.length = s.size := rfl
theorem ext_list (s : ByteArray) {k e : Nat} : (s.extract k e).data.toList = (s.data.toList.drop k).take (e - k) := Lib.extract_data s k e
theorem ext_drop (s : ByteArray) (k : Nat) : (s.extract k s.size).data.toList = s.data.toList.drop k := by
  rw [ext_list, List.take_of_length_le]
  rw [List.length_drop, size_list]; omega
/-- Where the text between edits begins, behind k edits. -/
def atk (L : List Ed) (k : Nat) : Nat := if k = 0 then 0 else (L.getD (k - 1) default).t.toNat
theorem atk_succ {L : List Ed} {k : Nat} {d : Ed} (h : L[k]? = some d) : atk L (k + 1) = d.t.toNat := by
  unfold atk; rw [if_neg (by omega), Nat.add_sub_cancel, List.getD_eq_getElem?_getD, h]; rfl
/-- What k edits make. -/
def pre (s : List UInt8) (L : List Ed) : Nat → List UInt8
  | 0 => []
  | k + 1 => pre s L k ++ ((s.drop (atk L k)).take ((L.getD k default).f.toNat - atk L k) ++ (L.getD k default).x.data.toList)
theorem pre_succ {s : List UInt8} {L : List Ed} {k : Nat} {d : Ed} (h : L[k]? = some d) : pre s L (k + 1) = pre s L k ++ ((s.drop (atk L k)).take (d.f.toNat - atk L k) ++ d.x.data.toList) := by
  have : L.getD k default = d := by rw [List.getD_eq_getElem?_getD, h]; rfl
  show pre s L k ++ ((s.drop (atk L k)).take ((L.getD k default).f.toNat - atk L k) ++ (L.getD k default).x.data.toList) = _
  rw [this]
def app (s : List UInt8) (L : List Ed) : List UInt8 := pre s L L.length ++ s.drop (atk L L.length)
/-- What a check that finds nothing says. -/
def Good (L : List Ed) (s : Nat) : Prop := L.length ≤ 4096 ∧ ∀ k d, L[k]? = some d → 0 ≤ d.f ∧ d.f ≤ d.t ∧ d.t ≤ (s : Int) ∧ (atk L k : Int) ≤ d.f
theorem chkL_good {L : List Ed} {s : Int} : ∀ (m : Nat) (p : Option Ed), chkL s p (L.drop m) = 0 → (p = prev L m) → ∀ k d, m ≤ k → L[k]? = some d → vld d.f d.t s = true ∧ (∀ q, 0 < k → L[k - 1]? = some q → ¬ (d.f < q.t ∨ q.f = d.t)) := by
  intro m
  induction h : L.length - m generalizing m with
  | zero =>
    intro p _ _ k d hk hd
    have := (List.getElem?_eq_some_iff.1 hd).1
    omega
  | succ j ih =>
    intro p hc hp k d hk hd
    obtain ⟨y, hy⟩ : ∃ y, L[m]? = some y := get_in rfl (by omega)
    have hv : vld y.f y.t s = true := by
      cases e : vld y.f y.t s with
      | true => rfl
      | false => rw [chk_bad hy e] at hc; cases hc
    have hcon : ∀ q, 0 < m → L[m - 1]? = some q → ¬ (y.f < q.t ∨ q.f = y.t) := by
      intro q hm hq e
      rw [hp, chk_con hy hm hq hv e] at hc
      cases hc
    have hnext : chkL s (prev L (m + 1)) (L.drop (m + 1)) = 0 := by
      rw [hp] at hc
      rcases Nat.eq_zero_or_pos m with h0 | h0
      · subst h0; rw [← chk_zero hy hv]; exact hc
      · obtain ⟨q, hq⟩ := get_in (L := L) rfl (show m - 1 < L.length by omega)
        rw [← chk_next hy h0 hq hv (hcon q h0 hq)]; exact hc
    by_cases e : k = m
    · subst e
      rw [hy] at hd
      obtain rfl := Option.some.inj hd
      exact ⟨hv, hcon⟩
    · exact ih (m + 1) (by omega) _ hnext rfl k d (by omega) hd
theorem good_of {L : List Ed} {s : Nat} (h : chk L s = 0) : Good L s := by
  unfold chk at h
  by_cases h4 : 4096 < L.length
  · rw [if_pos h4] at h; cases h
  · rw [if_neg h4] at h
    refine ⟨by omega, fun k d hd => ?_⟩
    obtain ⟨hv, hc⟩ := chkL_good (L := L) (s := s) 0 none h rfl k d (by omega) hd
    rw [vld_iff] at hv
    obtain ⟨v1, v2, v3⟩ := hv
    refine ⟨v1, v2, v3, ?_⟩
    unfold atk
    by_cases hk : k = 0
    · rw [if_pos hk]; omega
    · rw [if_neg hk]
      have hkl := (List.getElem?_eq_some_iff.1 hd).1
      obtain ⟨q, hq⟩ := get_in (L := L) rfl (show k - 1 < L.length by omega)
      obtain ⟨hv', _⟩ := chkL_good (L := L) (s := s) 0 none h rfl (k - 1) q (by omega) hq
      rw [vld_iff] at hv'
      have := hc q (by omega) hq
      rw [List.getD_eq_getElem?_getD, hq]
      show ((q.t.toNat : Nat) : Int) ≤ _
      omega
theorem atk_le {L : List Ed} {s : Nat} (h : Good L s) {k : Nat} (hk : k ≤ L.length) : atk L k ≤ s := by
  unfold atk
  by_cases h0 : k = 0
  · rw [if_pos h0]; omega
  · rw [if_neg h0]
    obtain ⟨q, hq⟩ := get_in (L := L) rfl (show k - 1 < L.length by omega)
    obtain ⟨a, b, c, _⟩ := h.2 _ _ hq
    rw [List.getD_eq_getElem?_getD, hq]
    show q.t.toNat ≤ s
    omega
/-- Texts that are not far too long. -/
def Short (L : List Ed) : Prop := ∀ d ∈ L, d.x.size ≤ 100000
theorem pre_len {s : List UInt8} {L : List Ed} (h : Good L s.length) (hS : Short L) {k : Nat} {d : Ed} (hd : L[k]? = some d) : (pre s L (k + 1)).length = (pre s L k).length + (d.f.toNat - atk L k) + d.x.size ∧ d.x.size ≤ 100000 := by
  obtain ⟨a, b, c, e⟩ := h.2 k d hd
  refine ⟨?_, hS d (List.mem_of_getElem? hd)⟩
  rw [pre_succ hd, List.length_append, List.length_append, List.length_take, List.length_drop, size_list]
  omega
theorem pre_le {s : List UInt8} {L : List Ed} (h : Good L s.length) (hS : Short L) {k : Nat} (hk : k ≤ L.length) : (pre s L k).length ≤ atk L k + k * 100000 := by
  induction k with
  | zero => simp [pre]
  | succ k ih =>
    obtain ⟨d, hd⟩ := get_in (L := L) rfl (show k < L.length by omega)
    obtain ⟨h1, h2⟩ := pre_len h hS hd
    have := ih (by omega)
    obtain ⟨a, b, c, e⟩ := h.2 k d hd
    rw [h1, atk_succ hd, Nat.add_mul]
    omega
theorem pre_mono {s : List UInt8} {L : List Ed} {k m : Nat} (hkm : k ≤ m) : (pre s L k).length ≤ (pre s L m).length := by
  induction m with
  | zero => have : k = 0 := by omega
            subst this; exact Nat.le_refl _
  | succ m ih =>
    by_cases h : k = m + 1
    · subst h; exact Nat.le_refl _
    · have := ih (by omega)
      show _ ≤ (pre s L m ++ _).length
      rw [List.length_append]; omega
def appE (s : List UInt8) (L : List Ed) : Int := if chk L s.length = 0 then (if 1048576 < (app s L).length then 10 else 0) else chk L s.length
def appR (s : List UInt8) (L : List Ed) : ByteArray := if appE s L = 0 then ⟨(app s L).toArray⟩ else ⟨#[]⟩
theorem appE_bad {s : List UInt8} {L : List Ed} (h : chk L s.length ≠ 0) : appE s L = chk L s.length ∧ appR s L = ⟨#[]⟩ := by
  have : appE s L = chk L s.length := by unfold appE; rw [if_neg h]
  exact ⟨this, by unfold appR; rw [this, if_neg h]⟩
theorem appE_big {s : List UInt8} {L : List Ed} (h : chk L s.length = 0) (hb : 1048576 < (app s L).length) : appE s L = 10 ∧ appR s L = ⟨#[]⟩ := by
  have : appE s L = 10 := by unfold appE; rw [if_pos h, if_pos hb]
  exact ⟨this, by unfold appR; rw [this]; rfl⟩
theorem appE_ok {s : List UInt8} {L : List Ed} (h : chk L s.length = 0) (hb : ¬ 1048576 < (app s L).length) : appE s L = 0 ∧ appR s L = ⟨(app s L).toArray⟩ := by
  have : appE s L = 0 := by unfold appE; rw [if_pos h, if_neg hb]
  exact ⟨this, by unfold appR; rw [if_pos this]⟩
theorem chk_is (L : List Ed) (s : Int) : chk L s = 0 ∨ chk L s = 2 ∨ chk L s = 10 ∨ chk L s = 25 := by
  unfold chk
  split
  · exact .inr (.inr (.inl rfl))
  · have : ∀ (L : List Ed) (p : Option Ed), chkL s p L = 0 ∨ chkL s p L = 2 ∨ chkL s p L = 10 ∨ chkL s p L = 25 := by
      intro L
      induction L with
      | nil => intro p; exact .inl (by unfold chkL; rfl)
      | cons x L ih =>
        intro p
        unfold chkL
        split
        · cases p with
          | none => exact ih _
          | some q =>
            simp only
            split
            · exact .inr (.inr (.inr rfl))
            · exact ih _
        · exact .inr (.inl rfl)
    exact this L none
end Go.Proofs.Ytdgoblapmjpcaaa.Sp
