/-
  Package decimal: Parse at any string, in one contract.
-/
import Derived.Test.YtaphckipkaggkaaGreatDoorDecBC
namespace Go.Proofs.YtaphckipkaggkaaGreatDoor.Dec
open Go.RowKit
set_option linter.unusedVariables false
set_option linter.unusedSimpArgs false
open Go.Proofs.YtaphckipkaggkaaGreatDoor.Dig

def rR (R : Bool × Nat × Int × Int) : Ending := .returned (.tuple #[.agg #[.bool R.1, .string (S R.2.1), .int .i64 R.2.2.1], .int .i64 R.2.2.2])
theorem trim_pre (l : List UInt8) (c : UInt8) : Lib.trimPrefix l [c] = if l.head? = some c then l.drop 1 else l := by
  unfold Lib.trimPrefix
  rw [pre_one]
  by_cases h : l.head? = some c
  · rw [if_pos h]; simp [h]
  · rw [if_neg h]; simp [h]
theorem expo_bd {l : List UInt8} {x : Int} (h : expo 1099511627776 l = some x) : -1099511627776 ≤ x ∧ x ≤ 1099511627776 := by
  rcases expo_caps l with ⟨a, b⟩ | ⟨y, a, b, c, d⟩ | ⟨y, z, a, b, c, d, e, f, g⟩
  · rw [a] at h; cases h
  · rw [a] at h; cases h; omega
  · rw [a] at h; cases h; omega
theorem ex0_list (s : ByteArray) (k : Nat) : (s.extract 0 k).data.toList = s.data.toList.take k := by
  rw [Lib.extract_data, List.drop_zero, Nat.sub_zero]
theorem ex0_size {s : ByteArray} {k : Nat} (h : k ≤ s.size) : (s.extract 0 k).size = k := by rw [ByteArray.size_extract]; omega
theorem dparse_any (s : ByteArray) (w : World) (hs : s.size ≤ 1000) : Calls Tryz.prog 27 #[.string s] w fun e w' => e = rR (prs 1099511627776 s.data.toList) ∧ Below w.heap.size w w' := by
  obtain ⟨t, ht⟩ : ∃ t : ByteArray, (⟨(Lib.trimPrefix s.data.toList [45]).toArray⟩ : ByteArray) = t := ⟨_, rfl⟩
  have htl : t.data.toList = l1 s.data.toList := by rw [← ht]; unfold l1; rw [← trim_pre]
  have HC : Hid (∀ w, Calls Tryz.prog 49 #[.string s, .string ⟨#[45]⟩] w fun e w' => e = .returned (.tuple #[.string t, .bool (ng s.data.toList)]) ∧ w' = w) := Lib.hid (fun w => by
    have := Tryz.strings_CutPrefix s ⟨#[45]⟩ w
    rw [show (⟨(Lib.trimPrefix s.data.toList (⟨#[45]⟩ : ByteArray).data.toList).toArray⟩ : ByteArray) = t from ht, show Lib.hasPrefix s.data.toList (⟨#[45]⟩ : ByteArray).data.toList = ng s.data.toList from pre_one _ _] at this
    exact this)
  have hl1 : (l1 s.data.toList).length ≤ s.size := by
    have : s.data.toList.length = s.size := rfl
    unfold l1
    split
    · rw [List.length_drop]; omega
    · omega
  have hts : t.size = (l1 s.data.toList).length := by rw [← htl]; rfl
  have hk := dlL_le (l1 s.data.toList)
  have hdt : dl t = dlL (l1 s.data.toList) := by rw [dl_list, htl]
  obtain ⟨k, hkk⟩ : ∃ k, dlL (l1 s.data.toList) = k := ⟨_, rfl⟩
  obtain ⟨a, ha⟩ : ∃ a, t.extract 0 k = a := ⟨_, rfl⟩
  have hal : a.data.toList = (l1 s.data.toList).take k := by rw [← ha, ex0_list, htl]
  have has : a.size = k := by rw [← ha]; exact ex0_size (by omega)
  have HW : Hid (∀ w, Calls Tryz.prog 50 #[.string t] w fun e w' => e = .returned (.string a) ∧ w = w') := Lib.hid (fun w => by
    have := digitsOf_any t w (by omega)
    rw [hdt, hkk, ha] at this
    exact this)
  have hda : digs ((l1 s.data.toList).take k) = true := by rw [← hkk]; exact dlL_digs _
  rw [hkk] at hk
  by_cases h0 : k = 0
  · have e : prs 1099511627776 s.data.toList = (false, 0, 0, 3) := by unfold prs pp; rw [if_pos (.inl (by rw [hkk]; exact h0))]
    rw [e]
    exact pa_w1 s t a _ w HC HW (by rw [hal, h0]; rfl)
  · have hh : a.data.toList.head? = (l1 s.data.toList).head? := by
      rw [hal]
      cases hq : l1 s.data.toList with
      | nil => simp
      | cons c q => obtain ⟨j, rfl⟩ : ∃ j, k = j + 1 := ⟨k - 1, by omega⟩
                    rfl
    have hap : 0 < a.size := by omega
    have hat := head_at a hap
    by_cases h1 : 1 < k ∧ (l1 s.data.toList).head? = some 48
    · have e : prs 1099511627776 s.data.toList = (false, 0, 0, 3) := by unfold prs pp; rw [if_pos (.inr (by rw [hkk]; exact h1))]
      rw [e]
      refine pa_w2 s t a _ w HC HW (by omega) (fun _ => ?_)
      rw [hh, h1.2] at hat
      rw [← Option.some.inj hat]; rfl
    · have hw : a.size = 1 ∨ (1 < a.size ∧ ∀ hh : 0 < a.size, (a[0]'hh).toNat ≠ 48) := by
        by_cases h2 : k = 1
        · exact .inl (by omega)
        · refine .inr ⟨by omega, fun _ hq => h1 ⟨by omega, ?_⟩⟩
          rw [← hh, hat, u8_of (by decide) hq]; rfl
      have hane : a.data.toList ≠ [] := fun e => by
        have : a.data.toList.length = a.size := rfl
        rw [e] at this; simp at this; omega
      have hno : ¬ (dlL (l1 s.data.toList) = 0 ∨ (1 < dlL (l1 s.data.toList) ∧ (l1 s.data.toList).head? = some 48)) := by rw [hkk]; exact fun h => h.elim h0 h1
      obtain ⟨r, hr⟩ : ∃ r, t.extract a.size t.size = r := ⟨_, rfl⟩
      have hrl : r.data.toList = (l1 s.data.toList).drop k := by rw [← hr, ex_from, htl, has]
      have hrs : r.size ≤ 1000 := by rw [← hr, ByteArray.size_extract]; omega
      obtain ⟨u, hu⟩ : ∃ u : ByteArray, (⟨(Lib.trimPrefix r.data.toList [46]).toArray⟩ : ByteArray) = u := ⟨_, rfl⟩
      have HF := fun w => Tryz.strings_CutPrefix r ⟨#[46]⟩ w
      rw [show (⟨(Lib.trimPrefix r.data.toList (⟨#[46]⟩ : ByteArray).data.toList).toArray⟩ : ByteArray) = u from hu, show Lib.hasPrefix r.data.toList (⟨#[46]⟩ : ByteArray).data.toList = decide (r.data.toList.head? = some 46) from pre_one _ _] at HF
      unfold prs pp
      rw [if_neg hno, hkk]
      by_cases hp : ((l1 s.data.toList).drop k).head? = some 46
      · rw [if_pos hp]
        rw [hrl, decide_eq_true hp] at HF
        have hul : u.data.toList = (l1 s.data.toList).drop (k + 1) := by
          rw [← hu, trim_pre, hrl, if_pos hp, List.drop_drop]
        have hus : u.size ≤ 1000 := by
          show u.data.toList.length ≤ 1000
          rw [hul, List.length_drop]; omega
        have hf := dlL_le ((l1 s.data.toList).drop (k + 1))
        have hfd := dlL_digs ((l1 s.data.toList).drop (k + 1))
        obtain ⟨m, hm⟩ : ∃ m, dlL ((l1 s.data.toList).drop (k + 1)) = m := ⟨_, rfl⟩
        rw [hm] at hf hfd
        obtain ⟨f, hff⟩ : ∃ f, u.extract 0 m = f := ⟨_, rfl⟩
        have hul2 : u.size = ((l1 s.data.toList).drop (k + 1)).length := by rw [← hul]; rfl
        have hfl : f.data.toList = ((l1 s.data.toList).drop (k + 1)).take m := by rw [← hff, ex0_list, hul]
        have hfs : f.size = m := by rw [← hff]; exact ex0_size (by omega)
        have HG : Hid (∀ w, Calls Tryz.prog 50 #[.string u] w fun e w' => e = .returned (.string f) ∧ w = w') := Lib.hid (fun w => by
          have := digitsOf_any u w (by omega)
          rw [dl_list, hul, hm, hff] at this
          exact this)
        rw [hm]
        by_cases hm0 : m = 0
        · rw [if_pos hm0]
          exact pa_f0 s t a _ w HC HW hane hw r hr (by omega) u f (Lib.hid HF) HG (by rw [hfl, hm0]; rfl)
        · rw [if_neg hm0]
          have hfne : f.data.toList ≠ [] := fun e => by
            have : f.data.toList.length = f.size := rfl
            rw [e] at this; simp at this; omega
          obtain ⟨v, hv⟩ : ∃ v, u.extract f.size u.size = v := ⟨_, rfl⟩
          have hvl : v.data.toList = (l1 s.data.toList).drop (k + 1 + m) := by rw [← hv, ex_from, hul, hfs, List.drop_drop]
          have hvs : v.size ≤ 1000 := by rw [← hv, ByteArray.size_extract]; omega
          have HX := fun w => exponent_any v w (by omega)
          rw [hvl] at HX
          cases hx : expo 1099511627776 ((l1 s.data.toList).drop (k + 1 + m)) with
          | none =>
            rw [hx] at HX
            exact pa_x1 s t a _ w HC HW hane hw r hr (by omega) u f (Lib.hid HF) HG hfne (by omega) v hv (Lib.hid HX)
          | some x =>
            rw [hx] at HX
            have hb := expo_bd hx
            have hN : Num (a ++ f) (val ((l1 s.data.toList).take k ++ ((l1 s.data.toList).drop (k + 1)).take m)) := by
              have e : (a ++ f).data.toList = (l1 s.data.toList).take k ++ ((l1 s.data.toList).drop (k + 1)).take m := by
                rw [ByteArray.data_append, Array.toList_append, hal, hfl]
              exact ⟨by rw [e]; exact digs_app hda hfd, by rw [e]⟩
            have HM := fun w => make_any (ng s.data.toList) (a ++ f) _ (x - (f.size : Int)) w hN (by rw [ByteArray.size_append]; omega) (by omega)
            have := pa_k1 s t a _ w HC HW hane hw r hr (by omega) u f _ _ _ _ x (Lib.hid HF) HG hfne (by omega) v hv (Lib.hid HX) (Lib.hid HM) (IntWalk.i64_in _ (by omega)) (by omega)
            rw [hfs] at this
            exact this
      · rw [if_neg hp]
        rw [hrl, decide_eq_false hp] at HF
        have HX := fun w => exponent_any r w (by omega)
        rw [hrl] at HX
        cases hx : expo 1099511627776 ((l1 s.data.toList).drop k) with
        | none =>
          rw [hx] at HX
          exact pa_x0 s t a _ w HC HW hane hw r hr (by omega) u (Lib.hid HF) (Lib.hid HX)
        | some x =>
          rw [hx] at HX
          have hb := expo_bd hx
          have hN : Num (a ++ ⟨#[]⟩) (val ((l1 s.data.toList).take k)) := by
            have e : (a ++ ⟨#[]⟩).data.toList = (l1 s.data.toList).take k := by
              rw [ByteArray.data_append, Array.toList_append, hal]; simp
            exact ⟨by rw [e]; exact hda, by rw [e]⟩
          have HM := fun w => make_any (ng s.data.toList) (a ++ ⟨#[]⟩) _ x w hN (by rw [ByteArray.size_append]; show a.size + 0 ≤ _; omega) (by omega)
          exact pa_k0 s t a _ w HC HW hane hw r hr (by omega) u _ _ _ _ x (Lib.hid HF) (Lib.hid HX) (Lib.hid HM) (IntWalk.i64_in _ (by omega)) (by omega)
end Go.Proofs.YtaphckipkaggkaaGreatDoor.Dec
