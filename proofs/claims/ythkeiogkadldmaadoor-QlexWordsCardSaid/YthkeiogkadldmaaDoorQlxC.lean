/-
  Contracts of the reference of qlex: names, keywords; the law's walk: QlexWords.
-/
import Derived.Test.YthkeiogkadldmaaDoorQlxB
namespace Go.Proofs.YthkeiogkadldmaaDoor.Qlx
open Go.RowKit
set_option linter.unusedVariables false
set_option linter.unusedSimpArgs false

theorem kwB_ways {s : ByteArray} (h : kwB s = true) : ∃ l, l ∈ kws ∧ s = ⟨l.toArray⟩ := by
  unfold kwB at h
  rw [List.any_eq_true] at h
  obtain ⟨l, hl, e⟩ := h
  exact ⟨l, hl, ba_ext (eq_of_beq e).symm⟩
theorem kwB_not {s : ByteArray} (h : kwB s = false) {l : List UInt8} (hl : l ∈ kws) : (s.toList == l) = false := by
  unfold kwB at h
  rw [List.any_eq_false] at h
  rw [beq_eq_false_iff_ne, toList_data]
  intro e
  exact h l hl (by rw [e]; simp)
set_option maxRecDepth 100000 in
set_option maxHeartbeats 4000000 in
theorem rkw_no (s : ByteArray) (w : World) (h : kwB s = false) : Calls Tryd.prog 5 #[.string s] w fun e w' => e = .returned (.bool false) ∧ w = w' := by
  have x0 := kwB_not h (l := [97, 110, 100]) (by decide)
  have x1 := kwB_not h (l := [97, 115]) (by decide)
  have x2 := kwB_not h (l := [98, 114, 101, 97, 107]) (by decide)
  have x3 := kwB_not h (l := [99, 97, 116, 99, 104]) (by decide)
  have x4 := kwB_not h (l := [100, 101, 102]) (by decide)
  have x5 := kwB_not h (l := [101, 108, 115, 101]) (by decide)
  have x6 := kwB_not h (l := [101, 110, 100]) (by decide)
  have x7 := kwB_not h (l := [102, 97, 108, 115, 101]) (by decide)
  have x8 := kwB_not h (l := [102, 111, 114, 101, 97, 99, 104]) (by decide)
  have x9 := kwB_not h (l := [105, 102]) (by decide)
  have x10 := kwB_not h (l := [105, 109, 112, 111, 114, 116]) (by decide)
  have x11 := kwB_not h (l := [108, 97, 98, 101, 108]) (by decide)
  have x12 := kwB_not h (l := [110, 117, 108, 108]) (by decide)
  have x13 := kwB_not h (l := [111, 114]) (by decide)
  have x14 := kwB_not h (l := [114, 101, 100, 117, 99, 101]) (by decide)
  have x15 := kwB_not h (l := [116, 104, 101, 110]) (by decide)
  have x16 := kwB_not h (l := [116, 114, 117, 101]) (by decide)
  have x17 := kwB_not h (l := [116, 114, 121]) (by decide)
  clear h
  go_enter Tryd.func5, Tryd.ntmps5
  go_wp2
  go_ret
  exact ⟨rfl, rfl⟩
set_option maxRecDepth 100000 in
set_option maxHeartbeats 8000000 in
theorem rkw_yes (s : ByteArray) (w : World) (h : kwB s = true) : Calls Tryd.prog 5 #[.string s] w fun e w' => e = .returned (.bool true) ∧ w = w' := by
  obtain ⟨l, hl, rfl⟩ := kwB_ways h
  clear h
  simp only [kws, List.mem_cons, List.not_mem_nil, or_false] at hl
  rcases hl with rfl | rfl | rfl | rfl | rfl | rfl | rfl | rfl | rfl | rfl | rfl | rfl | rfl | rfl | rfl | rfl | rfl | rfl
  all_goals
    go_enter Tryd.func5, Tryd.ntmps5
    go_wp2
    go_ret
    exact ⟨rfl, rfl⟩
theorem rkw_any (s : ByteArray) (w : World) : Calls Tryd.prog 5 #[.string s] w fun e w' => e = .returned (.bool (kwB s)) ∧ w = w' := by
  cases h : kwB s with
  | false => exact rkw_no s w h
  | true => exact rkw_yes s w h
set_option maxHeartbeats 1000000 in
theorem rfollows_any (s : ByteArray) (w : World) (hs : s.size ≤ maxLen) : Calls Tryd.prog 12 #[.string s] w fun e w' => e = .returned (.int .i64 (nlen s.data.toList)) ∧ w = w' := by
  unfold maxLen at hs
  go_enter Tryd.func12, Tryd.ntmps12
  go_wp2
  go_loop [3] (fun i => ∃ k : Nat, k ≤ s.size ∧ i = .int .i64 k ∧ Hid (0 < k → nlen s.data.toList = k + ((s.data.toList.drop k).takeWhile wrd).length)) (fun i => s.size - (intOf i).toNat)
  case atStart => exact ⟨0, Nat.zero_le _, rfl, Lib.hid fun h => by omega⟩
  case round =>
    obtain ⟨k, hk, rfl, HK⟩ := hrel
    by_cases hlt : k < s.size
    · have HA := Lib.hid (rletter_any s[k])
      have HD := Lib.hid (rdigit_any s[k])
      cases hl : lett s[k] with
      | true =>
        have HN : Hid (0 < k + 1 → nlen s.data.toList = k + 1 + ((s.data.toList.drop (k + 1)).takeWhile wrd).length) := Lib.hid fun _ => by
          rcases Nat.eq_zero_or_pos k with h | h
          · subst h; have := nlen_yes hlt hl; omega
          · exact nlen_step hlt (by unfold wrd; rw [hl]; rfl) (HK.out h)
        rw [hl] at HA
        clear hl
        go_wp2_with (go_at_call 13; (with_reducible refine (HA.out _).mono ?_); rintro e w' ⟨rfl, rfl⟩)
        go_round
        case rel => exact ⟨k + 1, by omega, by go_num, HN⟩
        case measure => simp [intOf]; omega
      | false =>
        by_cases h0 : k = 0
        · subst h0
          have HN := Lib.hid (nlen_no hlt hl)
          rw [hl] at HA
          clear hl
          go_wp2_with (go_at_call 13; (with_reducible refine (HA.out _).mono ?_); rintro e w' ⟨rfl, rfl⟩)
          go_ret
          exact ⟨ret_int (by rw [HN.out]; rfl), rfl⟩
        · have hk0 : 0 < (k : Int) := by omega
          cases hd : dgtB s[k] with
          | true =>
            have HN : Hid (0 < k + 1 → nlen s.data.toList = k + 1 + ((s.data.toList.drop (k + 1)).takeWhile wrd).length) := Lib.hid fun _ => nlen_step hlt (by unfold wrd; rw [hl, hd]; rfl) (HK.out (by omega))
            rw [hl] at HA
            rw [hd] at HD
            clear hl hd
            go_wp2_with (first | (go_at_call 13; (with_reducible refine (HA.out _).mono ?_); rintro e w' ⟨rfl, rfl⟩) | (go_at_call 14; (with_reducible refine (HD.out _).mono ?_); rintro e w' ⟨rfl, rfl⟩))
            go_round
            case rel => exact ⟨k + 1, by omega, by go_num, HN⟩
            case measure => simp [intOf]; omega
          | false =>
            have HN := Lib.hid (nlen_stop hlt (by unfold wrd; rw [hl, hd]; rfl) (HK.out (by omega)))
            rw [hl] at HA
            rw [hd] at HD
            clear hl hd
            go_wp2_with (first | (go_at_call 13; (with_reducible refine (HA.out _).mono ?_); rintro e w' ⟨rfl, rfl⟩) | (go_at_call 14; (with_reducible refine (HD.out _).mono ?_); rintro e w' ⟨rfl, rfl⟩))
            go_ret
            exact ⟨ret_int (by rw [HN.out]), rfl⟩
    · have HN : Hid (nlen s.data.toList = k) := Lib.hid (by
        rcases Nat.eq_zero_or_pos k with h | h
        · subst h; exact nlen_zero (by omega)
        · exact nlen_end (show s.size ≤ k by omega) (HK.out h))
      go_wp2
      go_ret
      exact ⟨ret_int (by rw [HN.out]), rfl⟩
end Go.Proofs.YthkeiogkadldmaaDoor.Qlx
