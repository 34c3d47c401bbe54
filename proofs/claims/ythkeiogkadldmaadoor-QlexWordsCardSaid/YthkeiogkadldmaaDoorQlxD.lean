/-
  Identifiers; the law's walk: QlexWords.
-/
import Derived.Test.YthkeiogkadldmaaDoorQlxC
namespace Go.Proofs.YthkeiogkadldmaaDoor.Qlx
open Go.RowKit
set_option linter.unusedVariables false
set_option linter.unusedSimpArgs false

def nmB (s : ByteArray) : Bool := decide (0 < s.size ∧ nlen s.data.toList = s.size)
def idB (s : ByteArray) : Bool := nmB s && decide (s.size ≤ 64) && !kwB s
theorem empty_f {s : ByteArray} (h0 : ¬ s.size = 0) : s.toList.isEmpty = false := by
  rw [toList_data]
  cases h : s.data.toList with
  | nil => exact absurd (List.length_eq_zero_iff.2 h) h0
  | cons => rfl
theorem empty_t {s : ByteArray} (h0 : s.size = 0) : s.toList.isEmpty = true := by
  rw [toList_data, List.length_eq_zero_iff.1 (show s.data.toList.length = 0 from h0)]; rfl
set_option maxHeartbeats 1000000 in
theorem rname_any (s : ByteArray) (w : World) (hs : s.size ≤ maxLen) : Calls Tryd.prog 9 #[.string s] w fun e w' => e = .returned (.bool (nmB s)) ∧ w = w' := by
  have HF := Lib.hid (fun w => rfollows_any s w hs)
  unfold maxLen at hs
  by_cases h0 : s.size = 0
  · have he := empty_t h0
    have HB : Hid (nmB s = false) := Lib.hid (by unfold nmB; rw [decide_eq_false_iff_not]; omega)
    go_enter Tryd.func9, Tryd.ntmps9
    go_wp2
    go_ret
    exact ⟨ret_bool HB.out.symm, rfl⟩
  · have he := empty_f h0
    have hp : 0 < s.size := by omega
    obtain ⟨n, hn⟩ : ∃ n, nlen s.data.toList = n := ⟨_, rfl⟩
    have HB : Hid (nmB s = decide (n = s.size)) := Lib.hid (by unfold nmB; rw [hn]; simp [hp])
    rw [hn] at HF
    clear hn
    go_enter Tryd.func9, Tryd.ntmps9
    go_wp2_with (go_at_call 12; (with_reducible refine (HF.out _).mono ?_); rintro e w' ⟨rfl, rfl⟩)
    go_ret
    refine ⟨ret_bool ?_, rfl⟩
    rw [HB.out]
    first | rfl | (rw [Bool.eq_iff_iff]; simp; omega)
set_option maxHeartbeats 1000000 in
theorem rident_any (s : ByteArray) (w : World) (hs : s.size ≤ maxLen) : Calls Tryd.prog 7 #[.string s] w fun e w' => e = .returned (.bool (idB s)) ∧ w = w' := by
  have HF := Lib.hid (fun w => rname_any s w hs)
  have HK := Lib.hid (fun w => rkw_any s w)
  unfold maxLen at hs
  obtain ⟨b, hb⟩ : ∃ b, nmB s = b := ⟨_, rfl⟩
  obtain ⟨c, hc⟩ : ∃ c, kwB s = c := ⟨_, rfl⟩
  have HB : Hid (idB s = (b && decide (s.size ≤ 64) && !c)) := Lib.hid (by unfold idB; rw [hb, hc])
  rw [hb] at HF
  rw [hc] at HK
  clear hb hc
  by_cases h64 : s.size ≤ 64
  all_goals
    cases b
    all_goals
      cases c
      all_goals
        go_enter Tryd.func7, Tryd.ntmps7
        go_wp2_with (first | (go_at_call 9; (with_reducible refine (HF.out _).mono ?_); rintro e w' ⟨rfl, rfl⟩) | (go_at_call 5; (with_reducible refine (HK.out _).mono ?_); rintro e w' ⟨rfl, rfl⟩))
        go_ret
        exact ⟨ret_bool (by rw [HB.out]; simp; try omega), rfl⟩
set_option maxHeartbeats 2000000 in
theorem ident_any (s : ByteArray) (w : World) (hs : s.size ≤ maxLen) (hT : KwTab w) : Calls Tryd.prog 6 #[.string s] w fun e w' => e = .returned (.bool (idB s)) ∧ w = w' := by
  have HF := Lib.hid (size_any s w hs)
  have HK := Lib.hid (kw_any s w hT)
  unfold maxLen at hs
  by_cases h0 : s.size = 0
  · have he := empty_t h0
    have HB : Hid (idB s = false) := Lib.hid (by unfold idB; rw [show nmB s = false by unfold nmB; rw [decide_eq_false_iff_not]; omega]; rfl)
    go_enter Tryd.func6, Tryd.ntmps6
    go_wp2
    go_ret
    exact ⟨ret_bool HB.out.symm, rfl⟩
  · have he := empty_f h0
    have hp : 0 < s.size := by omega
    obtain ⟨n, hn⟩ : ∃ n, nlen s.data.toList = n := ⟨_, rfl⟩
    obtain ⟨c, hc⟩ : ∃ c, kwB s = c := ⟨_, rfl⟩
    have HB : Hid (idB s = (decide (n = s.size) && decide (s.size ≤ 64) && !c)) := Lib.hid (by unfold idB nmB; rw [hn, hc]; simp [hp])
    rw [hn] at HF
    rw [hc] at HK
    clear hn hc
    by_cases hq : n = s.size
    · subst hq
      by_cases h64 : s.size ≤ 64
      all_goals
        cases c
        all_goals
          go_enter Tryd.func6, Tryd.ntmps6
          go_wp2_with (first | (go_at_call 8; (with_reducible refine HF.out.mono ?_); rintro e w' ⟨rfl, rfl⟩) | (go_at_call 4; (with_reducible refine HK.out.mono ?_); rintro e w' ⟨rfl, rfl⟩))
          go_ret
          exact ⟨ret_bool (by rw [HB.out]; simp; try omega), rfl⟩
    · have hq2 : ((n : Int) == (s.size : Int)) = false := by rw [beq_eq_false_iff_ne]; omega
      have HQ := Lib.hid hq
      have hq3 : (n == s.size) = false := by rw [beq_eq_false_iff_ne]; omega
      clear hq
      go_enter Tryd.func6, Tryd.ntmps6
      go_wp2_with (first | (go_at_call 8; (with_reducible refine HF.out.mono ?_); rintro e w' ⟨rfl, rfl⟩) | (go_at_call 4; (with_reducible refine HK.out.mono ?_); rintro e w' ⟨rfl, rfl⟩))
      go_ret
      exact ⟨ret_bool (by rw [HB.out]; simp [HQ.out]), rfl⟩
theorem kw_reduce (w : World) (hT : KwTab w) : Calls Tryd.prog 4 #[.string ⟨#[114, 101, 100, 117, 99, 101]⟩] w fun e w' => e = .returned (.bool true) ∧ w = w' := kw_any _ w hT
theorem id_a1 (w : World) (hT : KwTab w) : Calls Tryd.prog 6 #[.string ⟨#[95, 97, 49]⟩] w fun e w' => e = .returned (.bool true) ∧ w = w' := by
  have := ident_any ⟨#[95, 97, 49]⟩ w (by decide) hT
  rwa [show idB ⟨#[95, 97, 49]⟩ = true by decide +kernel] at this
set_option maxHeartbeats 2000000 in
theorem words_walk (s : ByteArray) (w : World) (hT : KwTab w) (hs : s.size ≤ maxLen) : Calls Tryd.prog 3 #[.string s] w fun e w' => e = .returned (.bool true) ∧ Below w.heap.size w w' := by
  have H1 := Lib.hid (kw_any s w hT)
  have H2 := Lib.hid (rkw_any s w)
  have H3 := Lib.hid (ident_any s w hs hT)
  have H4 := Lib.hid (rident_any s w hs)
  have H5 := Lib.hid (kw_reduce w hT)
  have H6 := Lib.hid (id_a1 w hT)
  clear hT
  go_enter Tryd.func3, Tryd.ntmps3
  go_wp2_with (first | (go_at_call 4; (first | ((with_reducible refine H1.out.mono ?_); rintro e w' ⟨rfl, rfl⟩) | ((with_reducible refine H5.out.mono ?_); rintro e w' ⟨rfl, rfl⟩))) | (go_at_call 5; (with_reducible refine H2.out.mono ?_); rintro e w' ⟨rfl, rfl⟩) | (go_at_call 6; (first | ((with_reducible refine H3.out.mono ?_); rintro e w' ⟨rfl, rfl⟩) | ((with_reducible refine H6.out.mono ?_); rintro e w' ⟨rfl, rfl⟩))) | (go_at_call 7; (with_reducible refine H4.out.mono ?_); rintro e w' ⟨rfl, rfl⟩))
  go_ret
  exact ⟨rfl, Below.refl _ _⟩
end Go.Proofs.YthkeiogkadldmaaDoor.Qlx
