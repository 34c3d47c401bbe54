/-
  Contracts of the reference of digits: numbers of numerals; what the first example asks.
-/
import Derived.Test.YtaphckipkaggkaaGreatDoorDigL
namespace Go.Proofs.YtaphckipkaggkaaGreatDoor.Dig
open Go.RowKit
set_option linter.unusedVariables false
set_option linter.unusedSimpArgs false

theorem wrap_twice {a : Int} (h1 : 0 ≤ a - 48) (h2 : a - 48 ≤ 9223372036854775807) : wrap64 (wrap64 a - 48) = a - 48 := by
  unfold wrap64; omega
theorem max_less {x : Nat} (h : (S x).size = 19) : Op.bytesLess (S x).toList [57, 50, 50, 51, 51, 55, 50, 48, 51, 54, 56, 53, 52, 55, 55, 53, 56, 48, 55] = decide (x < maxI) ∧ ((S x).toList == [57, 50, 50, 51, 51, 55, 50, 48, 51, 54, 56, 53, 52, 55, 55, 53, 56, 48, 55]) = decide (x = maxI) := by
  have e : [57, 50, 50, 51, 51, 55, 50, 48, 51, 54, 56, 53, 52, 55, 55, 53, 56, 48, 55] = (S maxI).toList := by rw [ByteArray.toList_eq, S_list, maxL_num]; rfl
  rw [e]
  exact ⟨less_S (h.trans maxI_size.symm), eq_S x maxI⟩
theorem max_short {x : Nat} (h : (S x).size < 19) : x ≤ maxI := Nat.le_of_lt (len_lt (by rw [maxI_size]; exact h))
theorem max_long {x : Nat} (h : 19 < (S x).size) : maxI < x := len_lt (by rw [maxI_size]; exact h)
set_option maxRecDepth 100000 in
set_option maxHeartbeats 2000000 in
theorem rtoInt_S (x : Nat) (w : World) (hx : (S x).size ≤ 600) : Calls Tryz.prog 31 #[.string (S x)] w fun e w' => e = .returned (.tuple #[.int .i64 (tiV x), .int .i64 (tiE x)]) ∧ w = w' := by
  by_cases h : x ≤ maxI
  · have e1 : Hid (tiV x = x) := if_pos h
    have e2 : Hid (tiE x = 0) := if_pos h
    obtain ⟨la, hla⟩ : ∃ n : Nat, (S x).size = n := ⟨_, rfl⟩
    have P0 := Lib.hid (pre_zero hla)
    have LA := Lib.hid hla
    have hw : ((la < 19 ∧ ((la : Int) == 19) = false) ∨ ((la = 19 ∧ ((la : Int) == 19) = true) ∧ Op.bytesLess (S x).toList [57, 50, 50, 51, 51, 55, 50, 48, 51, 54, 56, 53, 52, 55, 55, 53, 56, 48, 55] = true) ∨ ((la = 19 ∧ ((la : Int) == 19) = true) ∧ Op.bytesLess (S x).toList [57, 50, 50, 51, 51, 55, 50, 48, 51, 54, 56, 53, 52, 55, 55, 53, 56, 48, 55] = false ∧ ((S x).toList == [57, 50, 50, 51, 51, 55, 50, 48, 51, 54, 56, 53, 52, 55, 55, 53, 56, 48, 55]) = true)) := by
      by_cases h1 : la < 19
      · exact .inl ⟨h1, by rw [beq_eq_false_iff_ne]; omega⟩
      · have h2 : la = 19 := by
          rcases Nat.lt_trichotomy la 19 with c | c | c
          · exact absurd c h1
          · exact c
          · have := max_long (x := x) (by omega); omega
        obtain ⟨f1, f2⟩ := max_less (hla.trans h2)
        rcases Nat.lt_or_eq_of_le h with c | c
        · exact .inr (.inl ⟨⟨h2, by rw [h2]; rfl⟩, by rw [f1]; exact decide_eq_true c⟩)
        · exact .inr (.inr ⟨⟨h2, by rw [h2]; rfl⟩, by rw [f1]; exact decide_eq_false (by omega), by rw [f2]; exact decide_eq_true c⟩)
    have hb : x ≤ 9223372036854775807 := h
    clear h
    rcases hw with ⟨g1, g2⟩ | ⟨⟨g1, g2⟩, g3⟩ | ⟨⟨g1, g2⟩, g3, g4⟩
    all_goals
      try subst g1
      go_enter Tryz.func31, Tryz.ntmps31
      go_wp2_with (go_at_call 25; (with_reducible refine (rvalid_S (by omega)).mono ?_); rintro e w' ⟨rfl, rfl⟩)
      go_loop [4, 5] (fun n i => ∃ k : Nat, k ≤ (S x).size ∧ i = .int .i64 k ∧ n = .int .i64 ((x / 10 ^ ((S x).size - k) : Nat) : Int)) (fun _ i => (S x).size - (intOf i).toNat)
      case atStart => exact ⟨0, Nat.zero_le _, rfl, by rw [LA.out, P0.out]; rfl⟩
      case round =>
        obtain ⟨k, hk, rfl, rfl⟩ := hrel
        by_cases hlt : k < (S x).size
        · have hbd := S_byte hlt
          have HS := Lib.hid (pre_succ rfl hlt)
          have hle := pre_le (x := x) (la := (S x).size) (i := k + 1)
          rw [HS.out] at hle
          generalize x / 10 ^ ((S x).size - k) = v at *
          go_wp2
          go_round
          case rel => exact ⟨k + 1, by omega, by go_num, congrArg (Value.int .i64) (by rw [HS.out, wrap_twice (by omega) (by omega)]; omega)⟩
          case measure => simp [intOf]; omega
        · have hk2 : k = (S x).size := by omega
          have E0 : Hid (x / 10 ^ ((S x).size - k) = x) := Lib.hid (by rw [hk2, Nat.sub_self, Nat.pow_zero, Nat.div_one])
          clear hk2
          generalize x / 10 ^ ((S x).size - k) = v at *
          go_wp2
          go_ret2
          exact ⟨by rw [e1.out, e2.out, ← E0.out]; rfl, rfl⟩
  · have e1 : Hid (tiV x = 0) := if_neg h
    have e2 : Hid (tiE x = 2) := if_neg h
    have hw : 19 < (S x).size ∨ ((S x).size = 19 ∧ Op.bytesLess (S x).toList [57, 50, 50, 51, 51, 55, 50, 48, 51, 54, 56, 53, 52, 55, 55, 53, 56, 48, 55] = false ∧ ((S x).toList == [57, 50, 50, 51, 51, 55, 50, 48, 51, 54, 56, 53, 52, 55, 55, 53, 56, 48, 55]) = false) := by
      rcases Nat.lt_trichotomy (S x).size 19 with c | c | c
      · exact absurd (max_short c) h
      · obtain ⟨f1, f2⟩ := max_less c
        exact .inr ⟨c, by rw [f1]; exact decide_eq_false (by omega), by rw [f2]; exact decide_eq_false (by omega)⟩
      · exact .inl c
    clear h
    rcases hw with g1 | ⟨g1, g2, g3⟩
    all_goals
      go_enter Tryz.func31, Tryz.ntmps31
      go_wp2_with (go_at_call 25; (with_reducible refine (rvalid_S (by omega)).mono ?_); rintro e w' ⟨rfl, rfl⟩)
      go_ret2
      exact ⟨by rw [e1.out, e2.out]; rfl, rfl⟩
theorem rtoInt_bad (s : ByteArray) (w : World) (hs : s.size ≤ 9223372036854775807) (h : numV s.data.toList = false) : Calls Tryz.prog 31 #[.string s] w fun e w' => e = .returned (.tuple #[.int .i64 0, .int .i64 3]) ∧ w = w' := by
  have hv := rvalid_any s w hs
  rw [h] at hv
  have HV := Lib.hid hv
  clear hv
  go_enter Tryz.func31, Tryz.ntmps31
  go_wp2_with (go_at_call 25; (with_reducible refine HV.out.mono ?_); rintro e w' ⟨rfl, rfl⟩)
  go_ret2
  exact ⟨rfl, rfl⟩

/-- The numeral of a literal. -/
theorem S_lit {l : List UInt8} {n : Nat} (h : numB l = true) (hv : val l = n) : S n = ⟨l.toArray⟩ := by
  unfold S; rw [← hv, num_val h]
theorem s999 : S 999 = ⟨#[57, 57, 57]⟩ := S_lit (by decide) (by decide)
theorem s1 : S 1 = ⟨#[49]⟩ := S_lit (by decide) (by decide)
theorem s1000 : S 1000 = ⟨#[49, 48, 48, 48]⟩ := S_lit (by decide) (by decide)
theorem s12 : S 12 = ⟨#[49, 50]⟩ := S_lit (by decide) (by decide)
theorem s144 : S 144 = ⟨#[49, 52, 52]⟩ := S_lit (by decide) (by decide)
theorem s100 : S 100 = ⟨#[49, 48, 48]⟩ := S_lit (by decide) (by decide)
theorem s7 : S 7 = ⟨#[55]⟩ := S_lit (by decide) (by decide)
theorem s14 : S 14 = ⟨#[49, 52]⟩ := S_lit (by decide) (by decide)
theorem s2 : S 2 = ⟨#[50]⟩ := S_lit (by decide) (by decide)
theorem lim_small {n : Nat} (h : (S n).size ≤ 600) : limS n = n ∧ limE n = 0 := by
  rw [S_size] at h; exact ⟨if_pos h, if_pos h⟩
theorem add_lit (w : World) : Calls Tryz.prog 53 #[.string ⟨#[57, 57, 57]⟩, .string ⟨#[49]⟩] w fun e w' => e = .returned (.tuple #[.string ⟨#[49, 48, 48, 48]⟩, .int .i64 0]) ∧ Below w.heap.size w w' := by
  have := add_any 999 1 w (by rw [s999]; decide) (by rw [s1]; decide)
  obtain ⟨h1, h2⟩ := lim_small (n := 999 + 1) (by show (S 1000).size ≤ 600; rw [s1000]; decide)
  rw [h1, h2, show 999 + 1 = 1000 from rfl, s999, s1, s1000] at this
  exact this
end Go.Proofs.YtaphckipkaggkaaGreatDoor.Dig
