/-
  Contracts of package utf: slices by characters; the law's walk: UtfSlices.
-/
import Derived.Test.YtpoenakijbbegaaDoorUtfE
namespace Go.Proofs.YtpoenakijbbegaaDoor.Utf
open Go.RowKit
set_option linter.unusedVariables false
set_option linter.unusedSimpArgs false

theorem off_succ (l : List UInt8) (k : Nat) : off l (k + 1) = off l k + (hd (l.drop (off l k))).2 := rfl
theorem chAt_off {s : ByteArray} (h : vld s = true) {k : Nat} (hk : k < nch s.data.toList) : chAt s (off s.data.toList k : Nat) = hd (s.data.toList.drop (off s.data.toList k)) :=
  chAt_in (off_lt h hk).1
set_option maxHeartbeats 1000000 in
theorem skip_any (s : ByteArray) (a m : Nat) (w : World) (hT : Tabs w) (hs : s.size ≤ 4611686018427387904) (hv : vld s = true) (hm : a + m ≤ nch s.data.toList) : Calls Tryd.prog 39 #[.string s, .int .i64 (off s.data.toList a), .int .i64 m] w fun e w' => e = .returned (.int .i64 (off s.data.toList (a + m))) ∧ Below w.heap.size w w' := by
  have hn := nch_le s.data.toList
  rw [size_list] at hn
  have HV := Lib.hid hv
  have HO := Lib.hid (fun k => off_le s.data.toList k)
  have HA := Lib.hid (fun k (h : k < nch s.data.toList) => chAt_off hv h)
  clear hv
  go_enter Tryd.func39, Tryd.ntmps39
  go_wp2
  go_loopw [1, 10] (fun p i wr => ∃ k : Nat, k ≤ m ∧ i = .int .i64 k ∧ p = .int .i64 (off s.data.toList (a + k) : Nat) ∧ Below w.heap.size w wr) (fun _ i _ => m - (intOf i).toNat)
  case atStart => exact ⟨0, by omega, rfl, rfl, Below.refl _ _⟩
  case round =>
    obtain ⟨k, hk, rfl, rfl, hb⟩ := hrel
    by_cases hlt : k < m
    · have ho := HO.out (a + k)
      have hst := off_succ s.data.toList (a + k)
      have hca := HA.out (a + k) (by omega)
      have hle := hd_le (s.data.toList.drop (off s.data.toList (a + k)))
      rw [List.length_drop, size_list] at hle
      rw [size_list] at ho
      generalize off s.data.toList (a + k) = p at *
      obtain ⟨r, j, hrj⟩ : ∃ r j, hd (s.data.toList.drop p) = (r, j) := ⟨_, _, rfl⟩
      rw [hrj] at hst hca hle
      have hle' : j ≤ s.size - p := hle
      have HST := Lib.hid (show off s.data.toList (a + k + 1) = p + j from hst)
      have HCA := Lib.hid hca
      clear hst hca hrj hle
      go_wp2_with (go_at_call 13; (with_reducible refine (decode_is HCA (hT.below hb) (by omega) (by omega)).mono ?_); rintro e w1 ⟨rfl, hb1⟩; replace hb := bthen hb hb1; clear hb1)
      go_roundw
      case rel => exact ⟨k + 1, by omega, by go_num, by rw [← Nat.add_assoc, HST.out]; rfl, hb⟩
      case measure => simp [intOf]; omega
    · obtain rfl : k = m := by omega
      go_wp2
      go_ret
      exact ⟨rfl, hb⟩
theorem skip_is {s : ByteArray} {a m p q : Nat} {w : World} (hp : Hid (off s.data.toList a = p)) (hq : Hid (off s.data.toList (a + m) = q)) (hT : Tabs w) (hs : s.size ≤ 4611686018427387904) (hv : Hid (vld s = true)) (hm : Hid (a + m ≤ nch s.data.toList)) : Calls Tryd.prog 39 #[.string s, .int .i64 p, .int .i64 m] w fun e w' => e = .returned (.int .i64 q) ∧ Below w.heap.size w w' := by
  have := skip_any s a m w hT hs hv.out hm.out
  rw [hp.out, hq.out] at this; exact this
theorem skip_zero {s : ByteArray} {m q : Nat} {w : World} (hq : Hid (off s.data.toList (0 + m) = q)) (hT : Tabs w) (hs : s.size ≤ 4611686018427387904) (hv : Hid (vld s = true)) (hm : Hid (0 + m ≤ nch s.data.toList)) : Calls Tryd.prog 39 #[.string s, .int .i64 0, .int .i64 m] w fun e w' => e = .returned (.int .i64 q) ∧ Below w.heap.size w w' :=
  skip_is (a := 0) (p := 0) (Lib.hid rfl) hq hT hs hv hm
theorem off_mono (l : List UInt8) {a b : Nat} (h : a ≤ b) : off l a ≤ off l b := by
  obtain ⟨c, rfl⟩ : ∃ c, b = a + c := ⟨b - a, by omega⟩
  rw [off_add]; omega
set_option maxRecDepth 100000 in
set_option maxHeartbeats 1000000 in
theorem slice_ok (s : ByteArray) (a b n : Nat) (w : World) (hT : Tabs w) (hs : s.size ≤ 4611686018427387904) (hv : Hid (vld s = true)) (hn : Hid (nch s.data.toList = n)) (hab : a ≤ b) (hbn : b ≤ n) : Calls Tryd.prog 23 #[.string s, .int .i64 a, .int .i64 b] w fun e w' => e = .returned (.tuple #[.string (s.extract (off s.data.toList a) (off s.data.toList b)), .int .i64 0]) ∧ Below w.heap.size w w' := by
  have e1 : Hid (lnN s = n) := Lib.hid ((if_pos hv.out).trans hn.out)
  have e2 : Hid (lnE s = 0) := Lib.hid (if_pos hv.out)
  have hnle := nch_le s.data.toList
  rw [hn.out, size_list] at hnle
  have o1 := off_mono s.data.toList hab
  have o2 := off_le s.data.toList b
  rw [size_list] at o2
  have Q1 : Hid (0 + a ≤ nch s.data.toList) := Lib.hid (by rw [hn.out]; omega)
  have Q2 : Hid (a + (b - a) ≤ nch s.data.toList) := Lib.hid (by rw [hn.out]; omega)
  have Q3 : Hid (off s.data.toList (0 + a) = off s.data.toList a) := Lib.hid (by rw [Nat.zero_add])
  have Q4 : Hid (off s.data.toList (a + (b - a)) = off s.data.toList b) := Lib.hid (by rw [Nat.add_sub_cancel' hab])
  obtain ⟨c, hc⟩ : ∃ c, b - a = c := ⟨_, rfl⟩
  have hci : (b : Int) - (a : Int) = (c : Int) := by omega
  rw [hc] at Q2 Q4
  obtain ⟨p, Q5⟩ : ∃ p, Hid (off s.data.toList a = p) := ⟨_, rfl⟩
  obtain ⟨q, Q6⟩ : ∃ q, Hid (off s.data.toList b = q) := ⟨_, rfl⟩
  rw [Q5.out] at Q3 o1 ⊢
  rw [Q6.out] at Q4 o1 o2 ⊢
  have hb := Below.refl w.heap.size w
  clear hc
  go_enter Tryd.func23, Tryd.ntmps23
  go_wp2_with (first | (go_at_call 21; (with_reducible refine (len_is e1 e2 (hT.below hb) hs).mono ?_); rintro e w1 ⟨rfl, hb1⟩; replace hb := bthen hb hb1; clear hb1) | (go_at_call 39; (first | (with_reducible refine (skip_zero Q3 (hT.below hb) hs hv Q1).mono ?_) | (with_reducible refine (skip_is (a := a) Q5 Q4 (hT.below hb) hs hv Q2).mono ?_)); rintro e w2 ⟨rfl, hb2⟩; replace hb := bthen hb hb2; clear hb2))
  go_ret2
  exact ⟨rfl, hb⟩
theorem slice_is {s x : ByteArray} {a b n : Nat} {w : World} (hx : Hid (s.extract (off s.data.toList a) (off s.data.toList b) = x)) (hT : Tabs w) (hs : s.size ≤ 4611686018427387904) (hv : Hid (vld s = true)) (hn : Hid (nch s.data.toList = n)) (hab : a ≤ b) (hbn : b ≤ n) : Calls Tryd.prog 23 #[.string s, .int .i64 a, .int .i64 b] w fun e w' => e = .returned (.tuple #[.string x, .int .i64 0]) ∧ Below w.heap.size w w' := by
  have := slice_ok s a b n w hT hs hv hn hab hbn
  rw [hx.out] at this; exact this
theorem slice_zero {s x : ByteArray} {b n : Nat} {w : World} (hx : Hid (s.extract (off s.data.toList 0) (off s.data.toList b) = x)) (hT : Tabs w) (hs : s.size ≤ 4611686018427387904) (hv : Hid (vld s = true)) (hn : Hid (nch s.data.toList = n)) (hbn : b ≤ n) : Calls Tryd.prog 23 #[.string s, .int .i64 0, .int .i64 b] w fun e w' => e = .returned (.tuple #[.string x, .int .i64 0]) ∧ Below w.heap.size w w' :=
  slice_is (a := 0) hx hT hs hv hn (Nat.zero_le _) hbn
theorem ext_list (s : ByteArray) {p q : Nat} : (s.extract p q).data.toList = (s.data.toList.drop p).take (q - p) := Lib.extract_data s p q
/-- Three slices that follow one another. -/
theorem three (s : ByteArray) {a b : Nat} (h : Lib.validD s.data.toList = true) (hab : a ≤ b) (hb : b ≤ nch s.data.toList) :
    s.extract (off s.data.toList 0) (off s.data.toList a) ++ s.extract (off s.data.toList a) (off s.data.toList b) ++ s.extract (off s.data.toList b) (off s.data.toList (nch s.data.toList)) = s := by
  apply ba_ext
  rw [Joins.data_append, Joins.data_append, ext_list, ext_list, ext_list, off_all h]
  have o1 := off_mono s.data.toList hab
  have o2 := off_le s.data.toList b
  generalize off s.data.toList a = p at *
  generalize off s.data.toList b = q at *
  generalize s.data.toList = l at *
  show (l.drop 0).take (p - 0) ++ (l.drop p).take (q - p) ++ (l.drop q).take (l.length - q) = l
  rw [List.drop_zero, Nat.sub_zero, List.take_of_length_le (l := l.drop q) (by rw [List.length_drop]; omega)]
  have e : l.take p ++ (l.drop p).take (q - p) = l.take q := by rw [← List.take_add, Nat.add_sub_cancel' o1]
  rw [e, List.take_append_drop]
theorem mid_vld (s : ByteArray) {a b : Nat} (h : Lib.validD s.data.toList = true) (hab : a ≤ b) (hb : b ≤ nch s.data.toList) :
    vld (s.extract (off s.data.toList a) (off s.data.toList b)) = true ∧ nch (s.extract (off s.data.toList a) (off s.data.toList b)).data.toList = b - a := by
  unfold vld
  rw [ext_list]
  have e : off s.data.toList b = off s.data.toList a + off (s.data.toList.drop (off s.data.toList a)) (b - a) := by rw [← off_add, Nat.add_sub_cancel' hab]
  rw [e, Nat.add_sub_cancel_left]
  obtain ⟨h1, h2⟩ := off_rest h (Nat.le_trans hab hb)
  exact off_take h1 (by rw [h2]; omega)
set_option maxRecDepth 100000 in
set_option maxHeartbeats 4000000 in
theorem slices_walk (s : ByteArray) (a b : Int) (w : World) (hT : Tabs w) (ha : -9223372036854775808 ≤ a ∧ a ≤ 9223372036854775807) (hb' : -9223372036854775808 ≤ b ∧ b ≤ 9223372036854775807) (hs : s.size ≤ 4611686018427387904) : Calls Tryd.prog 11 #[.string s, .int .i64 a, .int .i64 b] w fun e w' => e = .returned (.bool true) ∧ Below w.heap.size w w' := by
  have hb := Below.refl w.heap.size w
  obtain ⟨n, E1⟩ : ∃ n, Hid (lnN s = n) := ⟨_, rfl⟩
  obtain ⟨c, E2⟩ : ∃ c, Hid (lnE s = c) := ⟨_, rfl⟩
  by_cases g : s.size ≤ 4096 ∧ c = 0 ∧ 0 ≤ a ∧ a ≤ b ∧ b ≤ n
  case neg =>
    have hw : 4096 < s.size ∨ (s.size ≤ 4096 ∧ (c == 0) = false ∧ (c != 0) = true ∧ ¬ c = 0) ∨ (s.size ≤ 4096 ∧ c = 0 ∧ a < 0) ∨ (s.size ≤ 4096 ∧ c = 0 ∧ 0 ≤ a ∧ b < a) ∨ (s.size ≤ 4096 ∧ c = 0 ∧ 0 ≤ a ∧ a ≤ b ∧ (n : Int) < b) := by
      by_cases q1 : 4096 < s.size
      · exact .inl q1
      by_cases q2 : c = 0
      · by_cases q3 : a < 0
        · exact .inr (.inr (.inl ⟨by omega, q2, q3⟩))
        by_cases q4 : b < a
        · exact .inr (.inr (.inr (.inl ⟨by omega, q2, by omega, q4⟩)))
        · exact .inr (.inr (.inr (.inr ⟨by omega, q2, by omega, by omega, by omega⟩)))
      · exact .inr (.inl ⟨by omega, by simpa using q2, by simpa using q2, q2⟩)
    clear g
    rcases hw with g1 | ⟨g1, g2, g3, g4⟩ | ⟨g1, rfl, g3⟩ | ⟨g1, rfl, g3, g4⟩ | ⟨g1, rfl, g3, g4, g5⟩
    all_goals
      go_enter Tryd.func11, Tryd.ntmps11
      go_wp2_with (first | (go_at_call 21; (first | (with_reducible refine (len_is E1 E2 (hT.below hb) hs).mono ?_)); rintro e w1 ⟨rfl, hb1⟩; replace hb := bthen hb hb1; clear hb1) | (go_at_call 12; (with_reducible refine (awake_any _ (hT.below hb)).mono ?_); rintro e w9 ⟨rfl, hb9⟩; replace hb := bthen hb hb9; clear hb9))
      go_ret
      exact ⟨rfl, hb⟩
  obtain ⟨g1, g2, g3, g4, g5⟩ := g
  obtain ⟨x, rfl⟩ := Int.eq_ofNat_of_zero_le g3
  obtain ⟨y, rfl⟩ := Int.eq_ofNat_of_zero_le (Int.le_trans g3 g4)
  have hv : vld s = true := by
    have := E2.out
    unfold lnE at this
    by_cases h : vld s = true
    · exact h
    · rw [if_neg h, g2] at this; cases this
  have hn : nch s.data.toList = n := (if_pos hv).symm.trans E1.out
  have hxy : x ≤ y := by omega
  have hyn : y ≤ n := by omega
  have h3 := three s hv hxy (by omega)
  have hm := mid_vld s hv hxy (by omega)
  rw [hn] at h3
  obtain ⟨X, HX⟩ : ∃ X, Hid (s.extract (off s.data.toList 0) (off s.data.toList x) = X) := ⟨_, rfl⟩
  obtain ⟨Y, HY⟩ : ∃ X, Hid (s.extract (off s.data.toList x) (off s.data.toList y) = X) := ⟨_, rfl⟩
  obtain ⟨Z, HZ⟩ : ∃ X, Hid (s.extract (off s.data.toList y) (off s.data.toList n) = X) := ⟨_, rfl⟩
  rw [HX.out, HY.out, HZ.out] at h3
  rw [HY.out] at hm
  have hsz := congrArg ByteArray.size h3
  rw [ByteArray.size_append, ByteArray.size_append] at hsz
  have F1 : Hid (lnN Y = y - x) := Lib.hid ((if_pos hm.1).trans hm.2)
  have F2 : Hid (lnE Y = 0) := Lib.hid (if_pos hm.1)
  have hq : ((X ++ Y ++ Z).toList == s.toList) = true := by rw [h3]; exact beq_self_eq_true _
  have z1 : X.size ≤ 4096 := by omega
  have z2 : Y.size ≤ 4096 := by omega
  have z3 : Z.size ≤ 4096 := by omega
  have z4 : (X ++ Y).size ≤ 8192 := by rw [ByteArray.size_append]; omega
  obtain ⟨d, hd'⟩ : ∃ d, y - x = d := ⟨_, rfl⟩
  rw [hd'] at F1
  have hdi : (y : Int) - (x : Int) = (d : Int) := by omega
  have HV := Lib.hid hv
  have HN := Lib.hid hn
  subst g2
  clear hv hn h3 hm hsz hd' g3 g4 g5
  go_enter Tryd.func11, Tryd.ntmps11
  go_wp2_with (first | (go_at_call 21; (first | (with_reducible refine (len_is E1 E2 (hT.below hb) hs).mono ?_) | (with_reducible refine (len_is F1 F2 (hT.below hb) (by omega)).mono ?_)); rintro e w1 ⟨rfl, hb1⟩; replace hb := bthen hb hb1; clear hb1) | (go_at_call 23; (first | (with_reducible refine (slice_zero HX (hT.below hb) hs HV HN (by omega)).mono ?_) | (with_reducible refine (slice_is HY (hT.below hb) hs HV HN (by omega) (by omega)).mono ?_) | (with_reducible refine (slice_is HZ (hT.below hb) hs HV HN (by omega) (by omega)).mono ?_)); rintro e w2 ⟨rfl, hb2⟩; replace hb := bthen hb hb2; clear hb2) | (go_at_call 12; (with_reducible refine (awake_any _ (hT.below hb)).mono ?_); rintro e w9 ⟨rfl, hb9⟩; replace hb := bthen hb hb9; clear hb9))
  go_ret
  exact ⟨rfl, hb⟩
end Go.Proofs.YtpoenakijbbegaaDoor.Utf
