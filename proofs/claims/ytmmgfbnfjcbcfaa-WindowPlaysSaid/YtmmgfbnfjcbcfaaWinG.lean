/-
  The law's walk: WindowKeeps.
-/
import Derived.Test.YtmmgfbnfjcbcfaaWinF
import Derived.Lib.SmallJoins
namespace Go.Proofs.Ytmmgfbnfjcbcfaa.Win
open Go.RowKit
set_option linter.unusedVariables false
set_option linter.unusedSimpArgs false

theorem ba_ext {a b : ByteArray} (h : a.data.toList = b.data.toList) : a = b := by
  cases a; cases b; congr 1; exact Array.ext' h

theorem Acts.below {w w' : World} {a : Option Addr} {n : Nat} {kd : Nat → Int} {st : Nat → ByteArray} {nn bb : Nat → Int} (h : Acts w a n kd st nn bb) (hb : Below w.heap.size w w') : ∀ i, i < n → ∃ b off, a = some ⟨b, off, none⟩ ∧ w'.cell? ⟨b, off + i * 4, none⟩ = some (.int .i64 (kd i)) ∧ w'.cell? ⟨b, off + i * 4 + 1, none⟩ = some (.string (st i)) ∧ w'.cell? ⟨b, off + i * 4 + 2, none⟩ = some (.int .i64 (nn i)) ∧ w'.cell? ⟨b, off + i * 4 + 3, none⟩ = some (.int .i64 (bb i)) ∧
    (-9223372036854775808 ≤ kd i ∧ kd i ≤ 9223372036854775807) ∧ (-9223372036854775808 ≤ nn i ∧ nn i ≤ 9223372036854775807) ∧ (-9223372036854775808 ≤ bb i ∧ bb i ≤ 9223372036854775807) := fun i hi => by
  obtain ⟨b, off, rfl, hlt, e0, e1, e2, e3, k0, k1, k2, _⟩ := h.2 i hi
  have hc := fun o => (bcell hb).1 b o hlt
  exact ⟨b, off, rfl, (hc _).trans e0, (hc _).trans e1, (hc _).trans e2, (hc _).trans e3, k0, k1, k2⟩
set_option maxHeartbeats 1000000 in
theorem win_take_bad {w : World} {base B sz : Nat} {tx : List UInt8} {tk : Nat} {cl : Bool} (hw : Wn w base B sz tx tk cl) (n : Int) (hn : n < 0 ∨ (tx.length : Int) < n) (hb : -9223372036854775808 ≤ n ∧ n ≤ 9223372036854775807) : Calls Try.prog 12 #[.pointer (some ⟨B, 0, none⟩), .int .i64 n] w fun e w' => e = .returned (.tuple #[.string ⟨#[]⟩, .int .i64 2]) ∧ Wn w' base B sz tx tk cl ∧ Below base w w' := by
  have HL := Lib.hid (wn_len hw)
  rcases hn with h | h
  · have b0 := Below.refl base w
    by_cases h0 : n < 0
    all_goals
      go_enter Try.func12, Try.ntmps12
      go_wp2_with (go_at_call 21; (with_reducible refine HL.out.mono ?_); rintro e w1 ⟨rfl, hw, b0⟩)
      go_ret2
      exact ⟨rfl, hw, b0⟩
  · have h0 : ¬ n < 0 := by omega
    go_enter Try.func12, Try.ntmps12
    go_wp2_with (go_at_call 21; (with_reducible refine HL.out.mono ?_); rintro e w1 ⟨rfl, hw, b0⟩)
    go_ret2
    exact ⟨rfl, hw, b0⟩
theorem new_bad (sz : Int) (w : World) (h : sz < 1 ∨ 65536 < sz) (hb : -9223372036854775808 ≤ sz ∧ sz ≤ 9223372036854775807) : Calls Try.prog 8 #[.int .i64 sz] w fun e w' => e = .returned (.tuple #[.pointer none, .int .i64 1]) ∧ w' = w := by
  rcases h with h | h
  · go_enter Try.func8, Try.ntmps8
    go_wp2
    go_ret2
    exact ⟨rfl, rfl⟩
  · have h0 : ¬ sz < 1 := by omega
    go_enter Try.func8, Try.ntmps8
    go_wp2
    go_ret2
    exact ⟨rfl, rfl⟩
/-- What a round keeps: what was fed is what was taken, and what is held. -/
structure KP (w wr : World) (base B sz i : Nat) (fed taken : ByteArray) (tx : List UInt8) : Prop where
  win : Wn wr base B sz tx taken.size false
  eq : fed.data.toList = taken.data.toList ++ tx
  len : fed.size ≤ 2000 * i
  bel : Below base w wr
theorem wn_le {w : World} {base B sz : Nat} {tx : List UInt8} {tk : Nat} {cl : Bool} (h : Wn w base B sz tx tk cl) : tx.length ≤ sz ∧ sz ≤ 65536 := by
  obtain ⟨v, row, fr, W⟩ := h
  exact ⟨by rw [← W.len]; exact W.htx, W.hsz⟩
set_option maxRecDepth 100000 in
set_option maxHeartbeats 8000000 in
theorem keeps_walk (sz : Int) {a : Option Addr} {n cap : Nat} {kd : Nat → Int} {st : Nat → ByteArray} {nn bb : Nat → Int} (w : World) (hA : Acts w a n kd st nn bb) (hz : -9223372036854775808 ≤ sz ∧ sz ≤ 9223372036854775807) : Calls Try.prog 4 #[.int .i64 sz, .slice a n cap] w fun e w' => e = .returned (.bool true) ∧ Below w.heap.size w w' := by
  have hn := hA.1
  have HS := Lib.hid (small_any (cap := cap) hA)
  by_cases g : 1 ≤ sz ∧ sz ≤ 65536
  case neg =>
    have HB := Lib.hid (fun w => new_bad sz w (by omega) hz)
    clear hA
    go_enter Try.func4, Try.ntmps4
    go_wp2_with (first | (go_at_call 6; (with_reducible refine HS.out.mono ?_); rintro e w1 ⟨⟨r, rfl, hr⟩, rfl⟩; clear hr) | (go_at_call 8; (with_reducible refine (HB.out _).mono ?_); rintro e w2 ⟨rfl, rfl⟩) | (go_at_call 7; (with_reducible refine (awake_any _).mono ?_); rintro e w3 ⟨rfl, hb⟩))
    all_goals
      go_ret
      exact ⟨rfl, hb⟩
  obtain ⟨m, rfl⟩ := Int.eq_ofNat_of_zero_le (show 0 ≤ sz by omega)
  have HN := Lib.hid (new_wn m w (by omega) (by omega))
  have HA := Lib.hid hA
  clear hA
  go_enter Try.func4, Try.ntmps4
  go_wp2_with (first | (go_at_call 6; (with_reducible refine HS.out.mono ?_); rintro e w1 ⟨⟨r, rfl, hr⟩, hw1⟩; have Hw1 := Lib.hid hw1; clear hw1) | (go_at_call 8; rw [Hw1.out]; (with_reducible refine HN.out.mono ?_); rintro e w2 ⟨rfl, W2, b2⟩) | (go_at_call 7; (with_reducible refine (awake_any _).mono ?_); rintro e w3 ⟨rfl, hb⟩))
  · go_ret
    rw [Hw1.out] at hb
    exact ⟨rfl, hb⟩
  obtain ⟨hn2, hst⟩ := hr (by cases r <;> simp_all)
  have HST := Lib.hid hst
  clear hr hst
  go_loopw [7, 8, 9] (fun F T i wr => ∃ (k : Nat) (fed taken : ByteArray) (tx : List UInt8), k ≤ n ∧ i = .int .i64 k ∧ F = .string fed ∧ T = .string taken ∧ Hid (KP w wr w.heap.size w.heap.size m k fed taken tx)) (fun _ _ i _ => n - (intOf i).toNat)
  case atStart => exact ⟨0, ByteArray.empty, ByteArray.empty, [], Nat.zero_le _, rfl, rfl, rfl, Lib.hid ⟨W2, rfl, Nat.le_refl _, b2⟩⟩
  case round =>
    obtain ⟨k, fed, taken, tx, hk, rfl, rfl, rfl, HK⟩ := hrel
    have W := HK.out.win
    have bel := HK.out.bel
    have hfl := HK.out.len
    have HEQ := Lib.hid HK.out.eq
    obtain ⟨htl, _⟩ := wn_le W
    have hfz : fed.size = taken.size + tx.length := by
      have := congrArg List.length HEQ.out
      rw [List.length_append] at this; exact this
    have hts : taken.size ≤ 400000 := by omega
    have HFZ := Lib.hid hfz
    clear hfz
    by_cases hlt : k < n
    · obtain ⟨b, off, rfl, hbl, _, _, _, _, k0, k1, k2, _⟩ := HA.out.2 k hlt
      have HC : Hid (∀ w', Below w.heap.size w w' → w'.cell? ⟨b, off + k * 4, none⟩ = some (.int .i64 (kd k)) ∧ w'.cell? ⟨b, off + k * 4 + 1, none⟩ = some (.string (st k)) ∧ w'.cell? ⟨b, off + k * 4 + 2, none⟩ = some (.int .i64 (nn k))) := Lib.hid fun w' hb => by
        obtain ⟨b', off', h, e0, e1, e2, _⟩ := HA.out.below hb k hlt
        injection h with h; injection h with h1 h2 _
        subst h1; subst h2
        exact ⟨e0, e1, e2⟩
      obtain ⟨c0, c1, c2⟩ := HC.out _ bel
      have hsk := HST.out k hlt
      generalize hkd : kd k = kind at *
      generalize hsv : st k = s at *
      generalize hnv : nn k = v at *
      by_cases q0 : kind = 0
      · subst q0
        by_cases hfit : s.size ≤ m - tx.length
        · have htl2 : (tx ++ s.data.toList).length ≤ m := by rw [List.length_append]; have : s.data.toList.length = s.size := rfl; omega
          go_wp2_with (first | (go_at_call 10; (with_reducible refine (win_feed W s hfit bel.size).mono ?_); rintro e w5 ⟨rfl, W', b'⟩; replace W := W'; replace bel := bel.trans b'; clear W' b'; obtain ⟨c0, c1, c2⟩ := HC.out _ bel) | (go_at_call 21; (with_reducible refine (wn_len W).mono ?_); rintro e w6 ⟨rfl, W', b'⟩; replace W := W'; replace bel := bel.trans b'; clear W' b') | (go_at_call 22; (with_reducible refine (wn_offset W).mono ?_); rintro e w7 ⟨rfl, rfl⟩))
          go_roundw
          case rel => exact ⟨k + 1, fed ++ s, taken, tx ++ s.data.toList, hlt, rfl, rfl, rfl, Lib.hid ⟨W, by rw [Joins.data_append, HEQ.out, List.append_assoc], by rw [ByteArray.size_append]; omega, bel⟩⟩
          case measure => simp [intOf]; omega
        · have hfit2 : m - tx.length < s.size := by omega
          go_wp2_with (first | (go_at_call 10; (with_reducible refine (wn_feed3 s W hfit2 (by omega)).mono ?_); rintro e w5 ⟨rfl, W', b'⟩; replace W := W'; replace bel := bel.trans b'; clear W' b'; obtain ⟨c0, c1, c2⟩ := HC.out _ bel) | (go_at_call 21; (with_reducible refine (wn_len W).mono ?_); rintro e w6 ⟨rfl, W', b'⟩; replace W := W'; replace bel := bel.trans b'; clear W' b') | (go_at_call 22; (with_reducible refine (wn_offset W).mono ?_); rintro e w7 ⟨rfl, rfl⟩))
          go_roundw
          case rel => exact ⟨k + 1, fed, taken, tx, hlt, rfl, rfl, rfl, Lib.hid ⟨W, HEQ.out, by omega, bel⟩⟩
          case measure => simp [intOf]; omega
      by_cases q1 : kind = 1
      · subst q1
        by_cases hin : v < 0 ∨ (tx.length : Int) < v
        · skip
          go_wp2_with (first | (go_at_call 12; (with_reducible refine (win_take_bad W v hin k1).mono ?_); rintro e w5 ⟨rfl, W', b'⟩; replace W := W'; replace bel := bel.trans b'; clear W' b'; obtain ⟨c0, c1, c2⟩ := HC.out _ bel) | (go_at_call 21; (with_reducible refine (wn_len W).mono ?_); rintro e w6 ⟨rfl, W', b'⟩; replace W := W'; replace bel := bel.trans b'; clear W' b') | (go_at_call 22; (with_reducible refine (wn_offset W).mono ?_); rintro e w7 ⟨rfl, rfl⟩))
          go_roundw
          case rel => exact ⟨k + 1, fed, taken, tx, hlt, rfl, rfl, congrArg Value.string (ba_ext (by rw [Joins.data_append]; exact List.append_nil _)), Lib.hid ⟨W, HEQ.out, by omega, bel⟩⟩
          case measure => simp [intOf]; omega
        · obtain ⟨j, rfl⟩ := Int.eq_ofNat_of_zero_le (show 0 ≤ v by omega)
          have hj : j ≤ tx.length := by omega
          have hts2 : taken.size + j = (taken ++ ⟨(tx.take j).toArray⟩).size := by
            have hj2 : (⟨(tx.take j).toArray⟩ : ByteArray).size = j := by show (tx.take j).toArray.size = j; rw [List.size_toArray, List.length_take]; omega
            rw [ByteArray.size_append, hj2]
          have HT2 := Lib.hid hts2
          clear hts2
          have hdl : (tx.drop j).length ≤ m := by rw [List.length_drop]; omega
          go_wp2_with (first | (go_at_call 12; (with_reducible refine (win_take W j hj (by omega)).mono ?_); rintro e w5 ⟨rfl, W', b'⟩; rw [HT2.out] at W'; replace W := W'; replace bel := bel.trans b'; clear W' b'; obtain ⟨c0, c1, c2⟩ := HC.out _ bel) | (go_at_call 21; (with_reducible refine (wn_len W).mono ?_); rintro e w6 ⟨rfl, W', b'⟩; replace W := W'; replace bel := bel.trans b'; clear W' b') | (go_at_call 22; (with_reducible refine (wn_offset W).mono ?_); rintro e w7 ⟨rfl, rfl⟩))
          go_roundw
          case rel => exact ⟨k + 1, fed, taken ++ ⟨(tx.take j).toArray⟩, tx.drop j, hlt, rfl, rfl, rfl, Lib.hid ⟨W, by rw [Joins.data_append, List.append_assoc]; show fed.data.toList = taken.data.toList ++ (tx.take j ++ tx.drop j); rw [List.take_append_drop, HEQ.out], by omega, bel⟩⟩
          case measure => simp [intOf]; omega
      · skip
        go_wp2_with (first | (go_at_call 21; (with_reducible refine (wn_len W).mono ?_); rintro e w6 ⟨rfl, W', b'⟩; replace W := W'; replace bel := bel.trans b'; clear W' b') | (go_at_call 22; (with_reducible refine (wn_offset W).mono ?_); rintro e w7 ⟨rfl, rfl⟩))
        go_roundw
        case rel => exact ⟨k + 1, fed, taken, tx, hlt, rfl, rfl, rfl, Lib.hid ⟨W, HEQ.out, by omega, bel⟩⟩
        case measure => simp [intOf]; omega
    · obtain rfl : k = n := by omega
      have hq : ((taken ++ ⟨(tx.take tx.length).toArray⟩).toList == fed.toList) = true := by
        have : taken ++ ⟨(tx.take tx.length).toArray⟩ = fed := by
          apply ba_ext
          rw [Joins.data_append, HEQ.out, List.take_length]
        rw [this]; exact beq_self_eq_true _
      have hle := htl
      have hj : tx.length ≤ tx.length := Nat.le_refl _
      rw [List.take_length] at hq
      have HTK := Lib.hid (List.take_length (l := tx))
      have HDR := Lib.hid (List.drop_length (l := tx))
      go_wp2_with (first | (go_at_call 21; (with_reducible refine (wn_len W).mono ?_); rintro e w6 ⟨rfl, W', b'⟩; replace W := W'; replace bel := bel.trans b'; clear W' b') | (go_at_call 12; (with_reducible refine (win_take W tx.length hj (by omega)).mono ?_); rintro e w5 ⟨rfl, W', b'⟩; rw [HTK.out]; rw [HDR.out] at W'; replace W := W'; replace bel := bel.trans b'; clear W' b') | (go_at_call 7; (with_reducible refine (awake_any _).mono ?_); rintro e w9 ⟨rfl, hb9⟩; replace bel := bel.trans (hb9.mono bel.size); clear hb9))
      go_ret
      exact ⟨rfl, bel⟩
end Go.Proofs.Ytmmgfbnfjcbcfaa.Win
