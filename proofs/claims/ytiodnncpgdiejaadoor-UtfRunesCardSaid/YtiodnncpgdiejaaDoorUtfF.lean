/-
  Contracts of package utf: slices by characters; the law's walk: UtfSlices.
-/
import Derived.Test.YtiodnncpgdiejaaDoorUtfE
namespace Go.Proofs.YtiodnncpgdiejaaDoor.Utf
open Go.RowKit
set_option linter.unusedVariables false
set_option linter.unusedSimpArgs false

theorem off_succ (l : List UInt8) (k : Nat) : off l (k + 1) = off l k + (hd (l.drop (off l k))).2 := rfl
theorem chAt_off {s : ByteArray} (h : vld s = true) {k : Nat} (hk : k < nch s.data.toList) : chAt s (off s.data.toList k : Nat) = hd (s.data.toList.drop (off s.data.toList k)) :=
  chAt_in (off_lt h hk).1
set_option maxHeartbeats 1000000 in
theorem skip_any (s : ByteArray) (a m : Nat) (w : World) (hT : Tabs w) (hs : s.size ≤ 4611686018427387904) (hv : vld s = true) (hm : a + m ≤ nch s.data.toList) : Calls Tryd.prog 23 #[.string s, .int .i64 (off s.data.toList a), .int .i64 m] w fun e w' => e = .returned (.int .i64 (off s.data.toList (a + m))) ∧ Below w.heap.size w w' := by
  have hn := nch_le s.data.toList
  rw [size_list] at hn
  have HV := Lib.hid hv
  have HO := Lib.hid (fun k => off_le s.data.toList k)
  have HA := Lib.hid (fun k (h : k < nch s.data.toList) => chAt_off hv h)
  clear hv
  go_enter Tryd.func23, Tryd.ntmps23
  go_wp2
  go_loopw [1, 10] (fun p i wr => ∃ k : Nat, k ≤ m ∧ i = .int .i64 k ∧ p = .int .i64 (off s.data.toList (a + k) : Nat) ∧ Below w.heap.size w wr) (fun _ i _ => m - (intOf i).toNat)
  case atStart => exact ⟨0, by omega, rfl, rfl, Below.refl _ _⟩
  case round =>
    obtain ⟨k, hk, rfl, rfl, hb⟩ := hrel
    by_cases hlt : k < m
    · have ho := HO.out (a + k)
      have hst := off_succ s.data.toList (a + k)
      have hca := HA.out (a + k) (by omega)
      have hle := hd_le (s.data.toList.drop (off s.data.toList (a + k)))
      rw [List.length_drop, size_list] at hle
      rw [size_list] at ho
      generalize off s.data.toList (a + k) = p at *
      obtain ⟨r, j, hrj⟩ : ∃ r j, hd (s.data.toList.drop p) = (r, j) := ⟨_, _, rfl⟩
      rw [hrj] at hst hca hle
      have hle' : j ≤ s.size - p := hle
      have HST := Lib.hid (show off s.data.toList (a + k + 1) = p + j from hst)
      have HCA := Lib.hid hca
      clear hst hca hrj hle
      go_wp2_with (go_at_call 13; (with_reducible refine (decode_is HCA (hT.below hb) (by omega) (by omega)).mono ?_); rintro e w1 ⟨rfl, hb1⟩; replace hb := bthen hb hb1; clear hb1)
      go_roundw
      case rel => exact ⟨k + 1, by omega, by go_num, by rw [← Nat.add_assoc, HST.out]; rfl, hb⟩
      case measure => simp [intOf]; omega
    · obtain rfl : k = m := by omega
      go_wp2
      go_ret
      exact ⟨rfl, hb⟩
theorem skip_is {s : ByteArray} {a m p q : Nat} {w : World} (hp : Hid (off s.data.toList a = p)) (hq : Hid (off s.data.toList (a + m) = q)) (hT : Tabs w) (hs : s.size ≤ 4611686018427387904) (hv : Hid (vld s = true)) (hm : Hid (a + m ≤ nch s.data.toList)) : Calls Tryd.prog 23 #[.string s, .int .i64 p, .int .i64 m] w fun e w' => e = .returned (.int .i64 q) ∧ Below w.heap.size w w' := by
  have := skip_any s a m w hT hs hv.out hm.out
  rw [hp.out, hq.out] at this; exact this
theorem skip_zero {s : ByteArray} {m q : Nat} {w : World} (hq : Hid (off s.data.toList (0 + m) = q)) (hT : Tabs w) (hs : s.size ≤ 4611686018427387904) (hv : Hid (vld s = true)) (hm : Hid (0 + m ≤ nch s.data.toList)) : Calls Tryd.prog 23 #[.string s, .int .i64 0, .int .i64 m] w fun e w' => e = .returned (.int .i64 q) ∧ Below w.heap.size w w' :=
  skip_is (a := 0) (p := 0) (Lib.hid rfl) hq hT hs hv hm
theorem off_mono (l : List UInt8) {a b : Nat} (h : a ≤ b) : off l a ≤ off l b := by
  obtain ⟨c, rfl⟩ : ∃ c, b = a + c := ⟨b - a, by omega⟩
  rw [off_add]; omega
theorem ext_list (s : ByteArray) {p q : Nat} : (s.extract p q).data.toList = (s.data.toList.drop p).take (q - p) := Lib.extract_data s p q
/-- Three slices that follow one another. -/
theorem three (s : ByteArray) {a b : Nat} (h : Lib.validD s.data.toList = true) (hab : a ≤ b) (hb : b ≤ nch s.data.toList) :
    s.extract (off s.data.toList 0) (off s.data.toList a) ++ s.extract (off s.data.toList a) (off s.data.toList b) ++ s.extract (off s.data.toList b) (off s.data.toList (nch s.data.toList)) = s := by
  apply ba_ext
  rw [Joins.data_append, Joins.data_append, ext_list, ext_list, ext_list, off_all h]
  have o1 := off_mono s.data.toList hab
  have o2 := off_le s.data.toList b
  generalize off s.data.toList a = p at *
  generalize off s.data.toList b = q at *
  generalize s.data.toList = l at *
  show (l.drop 0).take (p - 0) ++ (l.drop p).take (q - p) ++ (l.drop q).take (l.length - q) = l
  rw [List.drop_zero, Nat.sub_zero, List.take_of_length_le (l := l.drop q) (by rw [List.length_drop]; omega)]
  have e : l.take p ++ (l.drop p).take (q - p) = l.take q := by rw [← List.take_add, Nat.add_sub_cancel' o1]
  rw [e, List.take_append_drop]
theorem mid_vld (s : ByteArray) {a b : Nat} (h : Lib.validD s.data.toList = true) (hab : a ≤ b) (hb : b ≤ nch s.data.toList) :
    vld (s.extract (off s.data.toList a) (off s.data.toList b)) = true ∧ nch (s.extract (off s.data.toList a) (off s.data.toList b)).data.toList = b - a := by
  unfold vld
  rw [ext_list]
  have e : off s.data.toList b = off s.data.toList a + off (s.data.toList.drop (off s.data.toList a)) (b - a) := by rw [← off_add, Nat.add_sub_cancel' hab]
  rw [e, Nat.add_sub_cancel_left]
  obtain ⟨h1, h2⟩ := off_rest h (Nat.le_trans hab hb)
  exact off_take h1 (by rw [h2]; omega)
end Go.Proofs.YtiodnncpgdiejaaDoor.Utf
