/-
  Contracts of package decimal and its reference: texts that are no digits; the example's parts.
-/
import Derived.Test.YtjidjcnjgjmeoaaDoorDecB
import Derived.Test.YtjidjcnjgjmeoaaDoorDecMath2
namespace Go.Proofs.YtjidjcnjgjmeoaaDoor.Dec
open Go.RowKit
set_option linter.unusedVariables false
set_option linter.unusedSimpArgs false
open Go.Proofs.YtjidjcnjgjmeoaaDoor.Dig

set_option maxRecDepth 100000 in
set_option maxHeartbeats 2000000 in
theorem make_bad (g : Bool) (s : ByteArray) (x : Int) (w : World) (h : digs s.data.toList = false) (hs : s.size ≤ 100000) : Calls Tryd.prog 21 #[.bool g, .string s, .int .i64 x] w fun e w' => e = .returned (.tuple #[.agg #[.bool false, .string ⟨#[]⟩, .int .i64 0], .int .i64 3]) ∧ Below w.heap.size w w' := by
  have HB := Lib.hid h
  clear h
  go_enter Tryd.func21, Tryd.ntmps21
  go_wp2
  go_loop [12] (fun i => ∃ k : Nat, k ≤ s.size ∧ i = .int .i64 k ∧ Hid (digs (s.data.toList.take k) = true)) (fun i => s.size - (intOf i).toNat)
  case atStart => exact ⟨0, Nat.zero_le _, rfl, rfl⟩
  case round =>
    obtain ⟨k, hk, rfl, HD⟩ := hrel
    by_cases hlt : k < s.size
    · by_cases h1 : (s[k].toNat : Int) < 48
      · go_wp2
        exact bodyPost_ret (v := .tuple #[.agg #[.bool false, .string ⟨#[]⟩, .int .i64 0], .int .i64 3]) (by simp [results, Tryd.results21, go_sem]) rfl ⟨rfl, (Below.refl _ _).alloc (Nat.le_refl _) _⟩
      · by_cases h2 : 57 < (s[k].toNat : Int)
        · go_wp2
          exact bodyPost_ret (v := .tuple #[.agg #[.bool false, .string ⟨#[]⟩, .int .i64 0], .int .i64 3]) (by simp [results, Tryd.results21, go_sem]) rfl ⟨rfl, (Below.refl _ _).alloc (Nat.le_refl _) _⟩
        · have HN := Lib.hid (show digs (s.data.toList.take (k + 1)) = true by rw [digs_succ hlt, HD.out, isd_t (by omega) (by omega)]; rfl)
          go_wp2
          go_round
          case rel => exact ⟨k + 1, hlt, by go_num, HN⟩
          case measure => simp [intOf]; omega
    · exfalso
      have := digs_whole (show s.size ≤ k by omega) HD.out
      rw [HB.out] at this; cases this
/-- How many digits a string begins with. -/
def dl (s : ByteArray) : Nat := (s.data.toList.takeWhile isd).length
theorem dl_stop {s : ByteArray} {k : Nat} (hk : k < s.size) (hd : digs (s.data.toList.take k) = true) (hs : isd s[k] = false) : dl s = k := by
  unfold dl
  have e : s.data.toList = s.data.toList.take k ++ s[k] :: s.data.toList.drop (k + 1) := by
    conv => lhs; rw [← List.take_append_drop k s.data.toList]
    rw [List.drop_eq_getElem_cons (by exact hk)]; rfl
  rw [e, List.takeWhile_append_of_pos (fun c hc => List.all_eq_true.1 hd c hc), List.takeWhile_cons_of_neg (by simp [hs]), List.append_nil, List.length_take]
  have : s.data.toList.length = s.size := rfl
  omega
theorem dl_all {s : ByteArray} (hd : digs s.data.toList = true) : dl s = s.size := by
  unfold dl
  have e := List.takeWhile_append_of_pos (p := isd) (l₁ := s.data.toList) (l₂ := []) (fun c hc => List.all_eq_true.1 hd c hc)
  rw [List.append_nil, List.takeWhile_nil, List.append_nil] at e
  rw [e]; rfl
set_option maxRecDepth 100000 in
set_option maxHeartbeats 1000000 in
theorem digitsOf_any (s : ByteArray) (w : World) (hs : s.size ≤ 9223372036854775807) : Calls Tryd.prog 31 #[.string s] w fun e w' => e = .returned (.string (s.extract 0 (dl s))) ∧ w = w' := by
  go_enter Tryd.func31, Tryd.ntmps31
  go_wp2
  go_loop [6] (fun i => ∃ k : Nat, k ≤ s.size ∧ i = .int .i64 k ∧ Hid (digs (s.data.toList.take k) = true)) (fun i => s.size - (intOf i).toNat)
  case atStart => exact ⟨0, Nat.zero_le _, rfl, rfl⟩
  case round =>
    obtain ⟨k, hk, rfl, HD⟩ := hrel
    by_cases hlt : k < s.size
    · by_cases h1 : (s[k].toNat : Int) < 48
      · have HR := Lib.hid (dl_stop hlt HD.out (isd_f (.inl h1)))
        go_wp2
        go_ret
        exact ⟨by rw [HR.out] <;> rfl, rfl⟩
      · by_cases h2 : 57 < (s[k].toNat : Int)
        · have HR := Lib.hid (dl_stop hlt HD.out (isd_f (.inr h2)))
          go_wp2
          go_ret
          exact ⟨by rw [HR.out] <;> rfl, rfl⟩
        · have HN := Lib.hid (show digs (s.data.toList.take (k + 1)) = true by rw [digs_succ hlt, HD.out, isd_t (by omega) (by omega)]; rfl)
          go_wp2
          go_round
          case rel => exact ⟨k + 1, hlt, by go_num, HN⟩
          case measure => simp [intOf]; omega
    · have HR := Lib.hid (dl_all (digs_whole (show s.size ≤ k by omega) HD.out))
      have HE : Hid (s.extract 0 s.size = s) := Lib.hid (ba_ext (by rw [Lib.extract_data, List.drop_zero, Nat.sub_zero]; exact List.take_of_length_le (Nat.le_refl _)))
      go_wp2
      go_ret
      exact ⟨ret_str (by rw [HR.out, HE.out]), rfl⟩
theorem ext0 (s : ByteArray) (k : Nat) : (s.extract 0 k).data.toList = s.data.toList.take k := by
  rw [Lib.extract_data, List.drop_zero, Nat.sub_zero]
theorem dig_lit (d : UInt8) (hd : isd d = true) (w : World) : Calls Tryd.prog 31 #[.string ⟨#[d]⟩] w fun e w' => e = .returned (.string ⟨#[d]⟩) ∧ w = w' := by
  have := digitsOf_any ⟨#[d]⟩ w (by show 1 ≤ _; omega)
  rwa [dl_all (by simp [digs, hd]), show (⟨#[d]⟩ : ByteArray).extract 0 (⟨#[d]⟩ : ByteArray).size = ⟨#[d]⟩ from ba_ext (by rw [ext0]; rfl)] at this
theorem dig_zero (d : UInt8) (w : World) : Calls Tryd.prog 31 #[.string ⟨#[48, 46, d]⟩] w fun e w' => e = .returned (.string ⟨#[48]⟩) ∧ w = w' := by
  have := digitsOf_any ⟨#[48, 46, d]⟩ w (by show 3 ≤ _; omega)
  have e : dl ⟨#[48, 46, d]⟩ = 1 := by
    unfold dl
    rw [show (⟨#[48, 46, d]⟩ : ByteArray).data.toList = [48, 46, d] from rfl, List.takeWhile_cons_of_pos (by rfl), List.takeWhile_cons_of_neg (by decide)]; rfl
  rwa [e, show (⟨#[48, 46, d]⟩ : ByteArray).extract 0 1 = ⟨#[48]⟩ from ba_ext (by rw [ext0]; rfl)] at this
theorem cut_minus (d : UInt8) (w : World) : Calls Tryd.prog 30 #[.string ⟨#[48, 46, d]⟩, .string ⟨#[45]⟩] w fun e w' => e = .returned (.tuple #[.string ⟨#[48, 46, d]⟩, .bool false]) ∧ w' = w := Tryd.strings_CutPrefix ⟨#[48, 46, d]⟩ ⟨#[45]⟩ w
theorem cut_point (d : UInt8) (w : World) : Calls Tryd.prog 30 #[.string ⟨#[46, d]⟩, .string ⟨#[46]⟩] w fun e w' => e = .returned (.tuple #[.string ⟨#[d]⟩, .bool true]) ∧ w' = w := Tryd.strings_CutPrefix ⟨#[46, d]⟩ ⟨#[46]⟩ w
theorem exp_nil (w : World) : Calls Tryd.prog 32 #[.string ⟨#[]⟩] w fun e w' => e = .returned (.tuple #[.int .i64 0, .bool true]) ∧ w' = w := by
  go_enter Tryd.func32, Tryd.ntmps32
  go_wp2
  go_ret2
  exact ⟨rfl, rfl⟩
end Go.Proofs.YtjidjcnjgjmeoaaDoor.Dec
