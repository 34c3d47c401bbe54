/-
  Contracts of package decimal and its reference: validity, normal forms.
-/
import Derived.Test.YtjidjcnjgjmeoaaDoorDecMath
import Derived.Test.YtjidjcnjgjmeoaaDoorDigK
namespace Go.Proofs.YtjidjcnjgjmeoaaDoor.Dec
open Go.RowKit
set_option linter.unusedVariables false
set_option linter.unusedSimpArgs false
open Go.Proofs.YtjidjcnjgjmeoaaDoor.Dig

theorem zer_is (x : Nat) : zer x = zr x := rfl
/-- Whether a decimal is valid. -/
def vB (g : Bool) (s : ByteArray) (x : Int) : Bool := if s.size = 0 then decide (g = false ∧ x = 0) else decide (s.size ≤ 120 ∧ numV s.data.toList = true ∧ zr (val s.data.toList) = 0 ∧ -400 ≤ x ∧ x ≤ 400)
theorem vB_ok {g : Bool} {s : ByteArray} {x : Int} (h : vB g s x = true) : ∃ n, s = S n ∧ okD g n x := by
  unfold vB at h
  by_cases h0 : s.size = 0
  · rw [if_pos h0] at h
    have := of_decide_eq_true h
    exact ⟨0, ba_ext (by rw [empty_list h0]; rfl), .inl ⟨rfl, this.1, this.2⟩⟩
  · rw [if_neg h0] at h
    obtain ⟨h1, h2, h3, h4, h5⟩ := of_decide_eq_true h
    have e := S_of h2
    refine ⟨val s.data.toList, e, .inr ⟨?_, h3, ?_, h4, h5⟩⟩
    · rcases Nat.eq_zero_or_pos (val s.data.toList) with hz | hz
      · rw [hz] at e; rw [e] at h0; exact absurd rfl h0
      · exact hz
    · rw [← S_size, ← e]; exact h1
theorem ok_vB {g : Bool} {n : Nat} {x : Int} (h : okD g n x) : vB g (S n) x = true := by
  unfold vB
  rcases h with ⟨rfl, rfl, rfl⟩ | ⟨h, hz, hl, h1, h2⟩
  · rw [if_pos (by rfl)]; simp
  · have h0 : ¬ (S n).size = 0 := S_pos (by omega)
    rw [if_neg h0, decide_eq_true_eq, S_list, val_num, S_size]
    exact ⟨hl, numV_iff.2 ⟨by omega, num_digs n, (numB_iff.1 (num_numB n)).2⟩, hz, h1, h2⟩
theorem vB_big {g : Bool} {s : ByteArray} {x : Int} (h : 120 < s.size) : vB g s x = false := by
  unfold vB; rw [if_neg (by omega), decide_eq_false_iff_not]; omega
theorem vB_bad {g : Bool} {s : ByteArray} {x : Int} (h0 : ¬ s.size = 0) (h : numV s.data.toList = false) : vB g s x = false := by
  unfold vB; rw [if_neg h0, decide_eq_false_iff_not]; simp [h]
theorem vB_zeros {g : Bool} {n : Nat} {x : Int} (h0 : ¬ (S n).size = 0) (h : zr n ≠ 0) : vB g (S n) x = false := by
  unfold vB; rw [if_neg h0, decide_eq_false_iff_not, S_list, val_num]; simp [h]
theorem vB_exp {g : Bool} {s : ByteArray} {x : Int} (h0 : ¬ s.size = 0) (h : x < -400 ∨ 400 < x) : vB g s x = false := by
  unfold vB; rw [if_neg h0, decide_eq_false_iff_not]; omega
theorem vB_nil {g : Bool} {s : ByteArray} {x : Int} (h0 : s.size = 0) : vB g s x = decide (g = false ∧ x = 0) := by
  unfold vB; rw [if_pos h0]
set_option maxHeartbeats 2000000 in
theorem dvalid_any (g : Bool) (s : ByteArray) (x : Int) (w : World) (hs : s.size ≤ 9223372036854775807) (hx : -9223372036854775808 ≤ x ∧ x ≤ 9223372036854775807) : Calls Tryd.prog 15 #[.agg #[.bool g, .string s, .int .i64 x]] w fun e w' => e = .returned (.bool (vB g s x)) ∧ Below w.heap.size w w' := by
  by_cases h0 : s.size = 0
  · obtain rfl : s = ⟨#[]⟩ := ba_ext (empty_list h0)
    have HR := Lib.hid (vB_nil (g := g) (x := x) h0)
    clear h0
    by_cases hx0 : x = 0
    · subst hx0
      cases g
      all_goals
        go_enter Tryd.func15, Tryd.ntmps15
        go_wp2
        go_ret
        exact ⟨ret_bool (by rw [HR.out]; rfl), (by first | exact Below.refl _ _ | exact (Below.refl _ _).alloc (Nat.le_refl _) _ | exact ((Below.refl _ _).alloc (Nat.le_refl _) _).alloc (by simp) _ | exact (((Below.refl _ _).alloc (Nat.le_refl _) _).alloc (by simp) _).alloc (by simp) _)⟩
    · have hx1 : (x == 0) = false := by simpa using hx0
      have hx2 : decide (x = 0) = false := by simpa using hx0
      have HX := Lib.hid hx0
      clear hx0
      cases g
      all_goals
        go_enter Tryd.func15, Tryd.ntmps15
        go_wp2
        go_ret
        exact ⟨ret_bool (by rw [HR.out]; simp [HX.out]), (by first | exact Below.refl _ _ | exact (Below.refl _ _).alloc (Nat.le_refl _) _ | exact ((Below.refl _ _).alloc (Nat.le_refl _) _).alloc (by simp) _ | exact (((Below.refl _ _).alloc (Nat.le_refl _) _).alloc (by simp) _).alloc (by simp) _)⟩
  have ht := tl_ne h0
  have ht2 := tl_ne' h0
  have HV := Lib.hid (fun w => valid_any s w hs)
  have H0 := Lib.hid h0
  by_cases h1 : 120 < s.size
  · have HR := Lib.hid (vB_big (g := g) (x := x) h1)
    have h2 : ¬ (s.size : Int) ≤ 120 := by omega
    clear h0
    go_enter Tryd.func15, Tryd.ntmps15
    go_wp2
    go_ret
    exact ⟨ret_bool (by rw [HR.out]), (by first | exact Below.refl _ _ | exact (Below.refl _ _).alloc (Nat.le_refl _) _ | exact ((Below.refl _ _).alloc (Nat.le_refl _) _).alloc (by simp) _ | exact (((Below.refl _ _).alloc (Nat.le_refl _) _).alloc (by simp) _).alloc (by simp) _)⟩
  by_cases h2 : numV s.data.toList = true
  case neg =>
    have h2 : numV s.data.toList = false := by simpa using h2
    have HR := Lib.hid (vB_bad (g := g) (x := x) h0 h2)
    rw [h2] at HV
    clear h0 h2
    go_enter Tryd.func15, Tryd.ntmps15
    go_wp2_with (first | (go_at_call 36; (with_reducible refine (HV.out _).mono ?_); rintro e w' ⟨rfl, rfl⟩))
    go_ret
    exact ⟨ret_bool (by rw [HR.out]), (by first | exact Below.refl _ _ | exact (Below.refl _ _).alloc (Nat.le_refl _) _ | exact ((Below.refl _ _).alloc (Nat.le_refl _) _).alloc (by simp) _ | exact (((Below.refl _ _).alloc (Nat.le_refl _) _).alloc (by simp) _).alloc (by simp) _)⟩
  rw [h2] at HV
  obtain ⟨n, rfl⟩ : ∃ n, s = S n := ⟨_, S_of h2⟩
  have HZ := Lib.hid (fun w => zeros_any n w hs)
  have HZR := Lib.hid (zer_is n)
  rw [HZR.out] at HZ
  clear h2
  by_cases h3 : zr n = 0
  case neg =>
    have HR := Lib.hid (vB_zeros (g := g) (x := x) h0 h3)
    have h4 : ((zr n : Int) == 0) = false := by simpa using h3
    have h5 : (zr n == 0) = false := by simpa using h3
    generalize zr n = z at *
    clear h0 h3
    go_enter Tryd.func15, Tryd.ntmps15
    go_wp2_with (first | (go_at_call 36; (with_reducible refine (HV.out _).mono ?_); rintro e w' ⟨rfl, rfl⟩) | (go_at_call 37; (with_reducible refine (HZ.out _).mono ?_); rintro e w' ⟨rfl, rfl⟩))
    go_ret
    exact ⟨ret_bool (by rw [HR.out]), (by first | exact Below.refl _ _ | exact (Below.refl _ _).alloc (Nat.le_refl _) _ | exact ((Below.refl _ _).alloc (Nat.le_refl _) _).alloc (by simp) _ | exact (((Below.refl _ _).alloc (Nat.le_refl _) _).alloc (by simp) _).alloc (by simp) _)⟩
  have HZ0 := Lib.hid h3
  rw [HZ0.out] at HZ
  clear h0 h3
  by_cases h6 : x < -400
  · have HR := Lib.hid (vB_exp (g := g) H0.out (.inl h6))
    have h7 : ¬ -400 ≤ x := by omega
    go_enter Tryd.func15, Tryd.ntmps15
    go_wp2_with (first | (go_at_call 36; (with_reducible refine (HV.out _).mono ?_); rintro e w' ⟨rfl, rfl⟩) | (go_at_call 37; (with_reducible refine (HZ.out _).mono ?_); rintro e w' ⟨rfl, rfl⟩))
    go_ret
    exact ⟨ret_bool (by rw [HR.out]), (by first | exact Below.refl _ _ | exact (Below.refl _ _).alloc (Nat.le_refl _) _ | exact ((Below.refl _ _).alloc (Nat.le_refl _) _).alloc (by simp) _ | exact (((Below.refl _ _).alloc (Nat.le_refl _) _).alloc (by simp) _).alloc (by simp) _)⟩
  by_cases h8 : 400 < x
  · have HR := Lib.hid (vB_exp (g := g) H0.out (.inr h8))
    have h7 : ¬ x ≤ 400 := by omega
    go_enter Tryd.func15, Tryd.ntmps15
    go_wp2_with (first | (go_at_call 36; (with_reducible refine (HV.out _).mono ?_); rintro e w' ⟨rfl, rfl⟩) | (go_at_call 37; (with_reducible refine (HZ.out _).mono ?_); rintro e w' ⟨rfl, rfl⟩))
    go_ret
    exact ⟨ret_bool (by rw [HR.out] <;> (try simp) <;> (try omega)), (by first | exact Below.refl _ _ | exact (Below.refl _ _).alloc (Nat.le_refl _) _ | exact ((Below.refl _ _).alloc (Nat.le_refl _) _).alloc (by simp) _ | exact (((Below.refl _ _).alloc (Nat.le_refl _) _).alloc (by simp) _).alloc (by simp) _)⟩
  have HR : Hid (vB g (S n) x = true) := Lib.hid (by
    unfold vB; rw [if_neg H0.out, decide_eq_true_eq, S_list, val_num]
    have := H0.out
    exact ⟨by omega, numV_iff.2 ⟨by rw [← S_size]; omega, num_digs n, (numB_iff.1 (num_numB n)).2⟩, HZ0.out, by omega, by omega⟩)
  go_enter Tryd.func15, Tryd.ntmps15
  go_wp2_with (first | (go_at_call 36; (with_reducible refine (HV.out _).mono ?_); rintro e w' ⟨rfl, rfl⟩) | (go_at_call 37; (with_reducible refine (HZ.out _).mono ?_); rintro e w' ⟨rfl, rfl⟩))
  go_ret
  exact ⟨ret_bool (by rw [HR.out] <;> (try simp) <;> (try omega)), (by first | exact Below.refl _ _ | exact (Below.refl _ _).alloc (Nat.le_refl _) _ | exact ((Below.refl _ _).alloc (Nat.le_refl _) _).alloc (by simp) _ | exact (((Below.refl _ _).alloc (Nat.le_refl _) _).alloc (by simp) _).alloc (by simp) _)⟩
theorem dvalid_ok {g : Bool} {n : Nat} {x : Int} (w : World) (h : okD g n x) : Calls Tryd.prog 15 #[.agg #[.bool g, .string (S n), .int .i64 x]] w fun e w' => e = .returned (.bool true) ∧ Below w.heap.size w w' := by
  have hs : (S n).size ≤ 120 ∧ -400 ≤ x ∧ x ≤ 400 := by
    rcases h with ⟨rfl, rfl, rfl⟩ | ⟨_, _, hl, h1, h2⟩
    · exact ⟨by decide, by decide, by decide⟩
    · exact ⟨by rw [S_size]; exact hl, h1, h2⟩
  have := dvalid_any g (S n) x w (by omega) (by omega)
  rwa [ok_vB h] at this
set_option maxHeartbeats 2000000 in
theorem rdvalid_any (g : Bool) (s : ByteArray) (x : Int) (w : World) (hs : s.size ≤ 9223372036854775807) (hx : -9223372036854775808 ≤ x ∧ x ≤ 9223372036854775807) : Calls Tryd.prog 4 #[.agg #[.bool g, .string s, .int .i64 x]] w fun e w' => e = .returned (.bool (vB g s x)) ∧ Below w.heap.size w w' := by
  by_cases h0 : s.size = 0
  · obtain rfl : s = ⟨#[]⟩ := ba_ext (empty_list h0)
    have HR := Lib.hid (vB_nil (g := g) (x := x) h0)
    clear h0
    by_cases hx0 : x = 0
    · subst hx0
      cases g
      all_goals
        go_enter Tryd.func4, Tryd.ntmps4
        go_wp2
        go_ret
        exact ⟨ret_bool (by rw [HR.out]; rfl), (by first | exact Below.refl _ _ | exact (Below.refl _ _).alloc (Nat.le_refl _) _ | exact ((Below.refl _ _).alloc (Nat.le_refl _) _).alloc (by simp) _ | exact (((Below.refl _ _).alloc (Nat.le_refl _) _).alloc (by simp) _).alloc (by simp) _)⟩
    · have hx1 : (x == 0) = false := by simpa using hx0
      have hx2 : decide (x = 0) = false := by simpa using hx0
      have HX := Lib.hid hx0
      clear hx0
      cases g
      all_goals
        go_enter Tryd.func4, Tryd.ntmps4
        go_wp2
        go_ret
        exact ⟨ret_bool (by rw [HR.out]; simp [HX.out]), (by first | exact Below.refl _ _ | exact (Below.refl _ _).alloc (Nat.le_refl _) _ | exact ((Below.refl _ _).alloc (Nat.le_refl _) _).alloc (by simp) _ | exact (((Below.refl _ _).alloc (Nat.le_refl _) _).alloc (by simp) _).alloc (by simp) _)⟩
  have ht := tl_ne h0
  have ht2 := tl_ne' h0
  have HV := Lib.hid (fun w => rvalid_any s w hs)
  have H0 := Lib.hid h0
  by_cases h1 : 120 < s.size
  · have HR := Lib.hid (vB_big (g := g) (x := x) h1)
    have h2 : ¬ (s.size : Int) ≤ 120 := by omega
    clear h0
    go_enter Tryd.func4, Tryd.ntmps4
    go_wp2
    go_ret
    exact ⟨ret_bool (by rw [HR.out]), (by first | exact Below.refl _ _ | exact (Below.refl _ _).alloc (Nat.le_refl _) _ | exact ((Below.refl _ _).alloc (Nat.le_refl _) _).alloc (by simp) _ | exact (((Below.refl _ _).alloc (Nat.le_refl _) _).alloc (by simp) _).alloc (by simp) _)⟩
  by_cases h2 : numV s.data.toList = true
  case neg =>
    have h2 : numV s.data.toList = false := by simpa using h2
    have HR := Lib.hid (vB_bad (g := g) (x := x) h0 h2)
    rw [h2] at HV
    clear h0 h2
    go_enter Tryd.func4, Tryd.ntmps4
    go_wp2_with (first | (go_at_call 10; (with_reducible refine (HV.out _).mono ?_); rintro e w' ⟨rfl, rfl⟩))
    go_ret
    exact ⟨ret_bool (by rw [HR.out]), (by first | exact Below.refl _ _ | exact (Below.refl _ _).alloc (Nat.le_refl _) _ | exact ((Below.refl _ _).alloc (Nat.le_refl _) _).alloc (by simp) _ | exact (((Below.refl _ _).alloc (Nat.le_refl _) _).alloc (by simp) _).alloc (by simp) _)⟩
  rw [h2] at HV
  obtain ⟨n, rfl⟩ : ∃ n, s = S n := ⟨_, S_of h2⟩
  have HZ := Lib.hid (fun w => rzeros_any n w hs)
  have HZR := Lib.hid (zer_is n)
  rw [HZR.out] at HZ
  clear h2
  by_cases h3 : zr n = 0
  case neg =>
    have HR := Lib.hid (vB_zeros (g := g) (x := x) h0 h3)
    have h4 : ((zr n : Int) == 0) = false := by simpa using h3
    have h5 : (zr n == 0) = false := by simpa using h3
    generalize zr n = z at *
    clear h0 h3
    go_enter Tryd.func4, Tryd.ntmps4
    go_wp2_with (first | (go_at_call 10; (with_reducible refine (HV.out _).mono ?_); rintro e w' ⟨rfl, rfl⟩) | (go_at_call 11; (with_reducible refine (HZ.out _).mono ?_); rintro e w' ⟨rfl, rfl⟩))
    go_ret
    exact ⟨ret_bool (by rw [HR.out]), (by first | exact Below.refl _ _ | exact (Below.refl _ _).alloc (Nat.le_refl _) _ | exact ((Below.refl _ _).alloc (Nat.le_refl _) _).alloc (by simp) _ | exact (((Below.refl _ _).alloc (Nat.le_refl _) _).alloc (by simp) _).alloc (by simp) _)⟩
  have HZ0 := Lib.hid h3
  rw [HZ0.out] at HZ
  clear h0 h3
  by_cases h6 : x < -400
  · have HR := Lib.hid (vB_exp (g := g) H0.out (.inl h6))
    have h7 : ¬ -400 ≤ x := by omega
    go_enter Tryd.func4, Tryd.ntmps4
    go_wp2_with (first | (go_at_call 10; (with_reducible refine (HV.out _).mono ?_); rintro e w' ⟨rfl, rfl⟩) | (go_at_call 11; (with_reducible refine (HZ.out _).mono ?_); rintro e w' ⟨rfl, rfl⟩))
    go_ret
    exact ⟨ret_bool (by rw [HR.out]), (by first | exact Below.refl _ _ | exact (Below.refl _ _).alloc (Nat.le_refl _) _ | exact ((Below.refl _ _).alloc (Nat.le_refl _) _).alloc (by simp) _ | exact (((Below.refl _ _).alloc (Nat.le_refl _) _).alloc (by simp) _).alloc (by simp) _)⟩
  by_cases h8 : 400 < x
  · have HR := Lib.hid (vB_exp (g := g) H0.out (.inr h8))
    have h7 : ¬ x ≤ 400 := by omega
    go_enter Tryd.func4, Tryd.ntmps4
    go_wp2_with (first | (go_at_call 10; (with_reducible refine (HV.out _).mono ?_); rintro e w' ⟨rfl, rfl⟩) | (go_at_call 11; (with_reducible refine (HZ.out _).mono ?_); rintro e w' ⟨rfl, rfl⟩))
    go_ret
    exact ⟨ret_bool (by rw [HR.out] <;> (try simp) <;> (try omega)), (by first | exact Below.refl _ _ | exact (Below.refl _ _).alloc (Nat.le_refl _) _ | exact ((Below.refl _ _).alloc (Nat.le_refl _) _).alloc (by simp) _ | exact (((Below.refl _ _).alloc (Nat.le_refl _) _).alloc (by simp) _).alloc (by simp) _)⟩
  have HR : Hid (vB g (S n) x = true) := Lib.hid (by
    unfold vB; rw [if_neg H0.out, decide_eq_true_eq, S_list, val_num]
    have := H0.out
    exact ⟨by omega, numV_iff.2 ⟨by rw [← S_size]; omega, num_digs n, (numB_iff.1 (num_numB n)).2⟩, HZ0.out, by omega, by omega⟩)
  go_enter Tryd.func4, Tryd.ntmps4
  go_wp2_with (first | (go_at_call 10; (with_reducible refine (HV.out _).mono ?_); rintro e w' ⟨rfl, rfl⟩) | (go_at_call 11; (with_reducible refine (HZ.out _).mono ?_); rintro e w' ⟨rfl, rfl⟩))
  go_ret
  exact ⟨ret_bool (by rw [HR.out] <;> (try simp) <;> (try omega)), (by first | exact Below.refl _ _ | exact (Below.refl _ _).alloc (Nat.le_refl _) _ | exact ((Below.refl _ _).alloc (Nat.le_refl _) _).alloc (by simp) _ | exact (((Below.refl _ _).alloc (Nat.le_refl _) _).alloc (by simp) _).alloc (by simp) _)⟩
theorem rdvalid_ok {g : Bool} {n : Nat} {x : Int} (w : World) (h : okD g n x) : Calls Tryd.prog 4 #[.agg #[.bool g, .string (S n), .int .i64 x]] w fun e w' => e = .returned (.bool true) ∧ Below w.heap.size w w' := by
  have hs : (S n).size ≤ 120 ∧ -400 ≤ x ∧ x ≤ 400 := by
    rcases h with ⟨rfl, rfl, rfl⟩ | ⟨_, _, hl, h1, h2⟩
    · exact ⟨by decide, by decide, by decide⟩
    · exact ⟨by rw [S_size]; exact hl, h1, h2⟩
  have := rdvalid_any g (S n) x w (by omega) (by omega)
  rwa [ok_vB h] at this
end Go.Proofs.YtjidjcnjgjmeoaaDoor.Dec
