/-
  Contracts of package decimal: the chapter's example.
-/
import Derived.Test.YtjidjcnjgjmeoaaDoorDecC
namespace Go.Proofs.YtjidjcnjgjmeoaaDoor.Dec
open Go.RowKit
set_option linter.unusedVariables false
set_option linter.unusedSimpArgs false
open Go.Proofs.YtjidjcnjgjmeoaaDoor.Dig

theorem nrm_one {d : Nat} (h0 : 0 < d) (h : d < 10) : nrm false d (-1) = (false, d, -1, 0) :=
  nrm_ok (.inr ⟨h0, zr_no (by omega), by have : (num d).length ≤ 1 := num_len.2 (by omega); omega, by omega, by omega⟩)
theorem num_lit {d : Nat} (h : d < 10) : Num (⟨#[48]⟩ ++ ⟨#[dgt d]⟩) d := by
  have e : ((⟨#[48]⟩ : ByteArray) ++ ⟨#[dgt d]⟩).data.toList = [48, dgt d] := by rw [Joins.data_append]; rfl
  refine ⟨?_, ?_⟩
  · rw [e]; unfold digs; simp [dgt_isd h]; decide
  · rw [e]; unfold val val val; rw [dgt_toNat h]; simp
theorem lit_S {d : Nat} (h0 : 0 < d) (h : d < 10) : (⟨#[dgt d]⟩ : ByteArray) = S d := by
  apply ba_ext
  rw [S_list]
  have : numB [dgt d] = true := by
    rw [numB_iff]
    refine ⟨by simp [digs, dgt_isd h], ?_⟩
    simp only [List.head?_cons, ne_eq, Option.some.injEq]
    exact dgt_one h0 h
  have hv : val [dgt d] = d := by unfold val val; rw [dgt_toNat h]; simp
  have := num_val this
  rw [hv] at this
  rw [this]
set_option maxRecDepth 100000 in
set_option maxHeartbeats 2000000 in
theorem parse_lit (d : Nat) (h0 : 0 < d) (h : d < 10) (w : World) : Calls Tryd.prog 12 #[.string ⟨#[48, 46, dgt d]⟩] w fun e w' => e = .returned (.tuple #[.agg #[.bool false, .string (S d), .int .i64 (-1)], .int .i64 0]) ∧ Below w.heap.size w w' := by
  have HA := Lib.hid (cut_minus (dgt d))
  have HP := Lib.hid (cut_point (dgt d))
  have HZ := Lib.hid (dig_zero (dgt d))
  have HD := Lib.hid (dig_lit (dgt d) (dgt_isd h))
  have HX := Lib.hid exp_nil
  have HX2 : Hid (∀ w, Calls Tryd.prog 32 #[.string ByteArray.empty] w fun e w' => e = .returned (.tuple #[.int .i64 0, .bool true]) ∧ w' = w) := Lib.hid exp_nil
  have HM := Lib.hid (fun w => make_any false (⟨#[48]⟩ ++ ⟨#[dgt d]⟩) d (-1) w (num_lit h) (by rw [ByteArray.size_append]; show 2 ≤ _; omega) (by omega))
  have HR := Lib.hid (nrm_parts (nrm_one h0 h))
  have HMR : Hid (∀ w, Calls Tryd.prog 21 #[.bool false, .string (⟨#[48]⟩ ++ ⟨#[dgt d]⟩), .int .i64 (-1)] w fun e w' => e = .returned (.tuple #[.agg #[.bool false, .string (S d), .int .i64 (-1)], .int .i64 0]) ∧ Below w.heap.size w w') := Lib.hid fun w => (HM.out w).mono fun e w' ⟨he, hb⟩ => ⟨he.trans HR.out, hb⟩
  have HC := Lib.hid (DC.new w false ⟨#[]⟩ 0)
  clear HM HR
  obtain ⟨c, hc⟩ : ∃ c, dgt d = c := ⟨_, rfl⟩
  rw [hc] at HA HP HZ HD HMR ⊢
  have h1 : (⟨#[48, 46, c]⟩ : ByteArray).extract 1 (⟨#[48, 46, c]⟩ : ByteArray).size = ⟨#[46, c]⟩ := ba_ext (by rw [ext_drop]; rfl)
  have h2 : (⟨#[c]⟩ : ByteArray).extract 1 (⟨#[c]⟩ : ByteArray).size = ⟨#[]⟩ := ba_ext (by rw [ext_drop]; rfl)
  have h3 : (⟨#[48, 46, c]⟩ : ByteArray).size = 3 := rfl
  have h4 : (⟨#[c]⟩ : ByteArray).size = 1 := rfl
  rw [h3] at h1
  rw [h4] at h2
  have h5 : (⟨#[c]⟩ : ByteArray).toList.isEmpty = false := by rw [ByteArray.toList_eq]; rfl
  have h6 : ¬ (⟨#[c]⟩ : ByteArray).toList = [] := by rw [ByteArray.toList_eq]; simp
  obtain ⟨s, hs⟩ : ∃ s : ByteArray, ⟨#[48, 46, c]⟩ = s := ⟨_, rfl⟩
  obtain ⟨t, ht⟩ : ∃ s : ByteArray, ⟨#[46, c]⟩ = s := ⟨_, rfl⟩
  obtain ⟨u, hu⟩ : ∃ s : ByteArray, ⟨#[c]⟩ = s := ⟨_, rfl⟩
  rw [hs, ht] at h1
  rw [hu] at h2 h5 h6 h4
  rw [hs] at h3 HA HZ ⊢
  rw [ht, hu] at HP
  rw [hu] at HD HMR
  clear hs ht hu hc
  go_enter Tryd.func12, Tryd.ntmps12
  go_wp2_with (first
    | (go_at_call 30; first | ((with_reducible refine (HA.out _).mono ?_); rintro e w1 ⟨rfl, rfl⟩) | ((with_reducible refine (HP.out _).mono ?_); rintro e w1 ⟨rfl, rfl⟩))
    | (go_at_call 31; first | ((with_reducible refine (HZ.out _).mono ?_); rintro e w1 ⟨rfl, rfl⟩) | ((with_reducible refine (HD.out _).mono ?_); rintro e w1 ⟨rfl, rfl⟩))
    | (go_at_call 32; first | ((with_reducible refine (HX.out _).mono ?_); rintro e w1 ⟨rfl, rfl⟩) | ((with_reducible refine (HX2.out _).mono ?_); rintro e w1 ⟨rfl, rfl⟩))
    | (go_at_call 21; (with_reducible refine (HMR.out _).mono ?_); rintro e w1 ⟨rfl, hb⟩; have X := HC.out.below hb HC.out.lt; obtain ⟨x0, x1, x2⟩ := X.cells; have y0 := X.fz 0; have y1 := X.fz 1; have y2 := X.fz 2; have bl : Below w.heap.size w w1 := ((Below.refl _ _).alloc (Nat.le_refl _) _).trans (hb.mono (by simp)); clear hb))
  exact bodyPost_ret (v := .tuple #[.agg #[.bool false, .string (S d), .int .i64 (-1)], .int .i64 0]) (by simp [results, Tryd.results12, go_sem, x0, x1, x2]) rfl ⟨rfl, ((bl.setCell (by simp) _).setCell (by simp) _).setCell (by simp) _⟩
end Go.Proofs.YtjidjcnjgjmeoaaDoor.Dec
