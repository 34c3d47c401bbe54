/-
  The laws' walks of digits: reading, sums, products, quotients, shifts.
-/
import Derived.Test.YtiekchldkohkgaaDoorDigM
namespace Go.Proofs.YtiekchldkohkgaaDoor.Dig
open Go.RowKit
set_option linter.unusedVariables false
set_option linter.unusedSimpArgs false

theorem rvalid_f {s : ByteArray} {w : World} (hs : s.size ≤ 9223372036854775807) (h : numV s.data.toList = false) : Calls Tryd.prog 16 #[.string s] w fun e w' => e = .returned (.bool false) ∧ w = w' := by
  have := rvalid_any s w hs; rwa [h] at this
theorem valid_f {s : ByteArray} {w : World} (hs : s.size ≤ 9223372036854775807) (h : Hid (numV s.data.toList = false)) : Calls Tryd.prog 15 #[.string s] w fun e w' => e = .returned (.bool false) ∧ w = w' := by
  have := valid_any s w hs; rwa [h.out] at this
theorem rvalid_f' {s : ByteArray} {w : World} (hs : s.size ≤ 9223372036854775807) (h : Hid (numV s.data.toList = false)) : Calls Tryd.prog 16 #[.string s] w fun e w' => e = .returned (.bool false) ∧ w = w' := by
  have := rvalid_any s w hs; rwa [h.out] at this
set_option maxRecDepth 100000 in
set_option maxHeartbeats 1000000 in
theorem reads_walk (s : ByteArray) (w : World) (hs : s.size ≤ 9223372036854775807) : Calls Tryd.prog 3 #[.string s] w fun e w' => e = .returned (.bool true) ∧ Below w.heap.size w w' := by
  by_cases h1 : s.size ≤ 1500
  case neg =>
    have hb := Below.refl w.heap.size w
    go_enter Tryd.func3, Tryd.ntmps3
    go_wp2_with (first | (go_at_call 10; (with_reducible refine (lives_any _).mono ?_); rintro e w9 ⟨rfl, hb9⟩; replace hb := bthen hb hb9; clear hb9))
    go_ret
    exact ⟨rfl, hb⟩
  have HT := Lib.hid (trim_any s w h1)
  have HR := Lib.hid (rtrim_any s w h1)
  cases hv : numV s.data.toList with
  | false =>
    have HV := Lib.hid hv
    have HI := Lib.hid (toInt_bad s w hs hv)
    have HJ := Lib.hid (rtoInt_bad s w hs hv)
    clear hv
    generalize trS s.data.toList = t at *
    generalize trE s.data.toList = te at *
    have hb := Below.refl w.heap.size w
    go_enter Tryd.func3, Tryd.ntmps3
    go_wp2_with (first | (go_at_call 11; (with_reducible refine (HT.out).mono ?_); rintro e w' ⟨rfl, rfl⟩) | (go_at_call 13; (with_reducible refine (HR.out).mono ?_); rintro e w' ⟨rfl, rfl⟩) | (go_at_call 12; (with_reducible refine (HI.out).mono ?_); rintro e w' ⟨rfl, rfl⟩) | (go_at_call 14; (with_reducible refine (HJ.out).mono ?_); rintro e w' ⟨rfl, rfl⟩) | (go_at_call 15; (with_reducible refine (valid_f (by assumption) HV).mono ?_); rintro e w' ⟨rfl, rfl⟩) | (go_at_call 16; (with_reducible refine (rvalid_f' (by assumption) HV).mono ?_); rintro e w' ⟨rfl, rfl⟩) | (go_at_call 10; (with_reducible refine (lives_any _).mono ?_); rintro e w9 ⟨rfl, hb9⟩; replace hb := bthen hb hb9; clear hb9))
    go_ret
    exact ⟨rfl, hb⟩
  | true =>
    have e := S_of hv
    have hx : (S (val s.data.toList)).size ≤ 600 := by rw [← e]; exact (numV_iff.1 hv).1
    have HI := Lib.hid (toInt_S (val s.data.toList) w hx)
    have HJ := Lib.hid (rtoInt_S (val s.data.toList) w hx)
    have HV := Lib.hid (valid_S (w := w) hx)
    have HW := Lib.hid (rvalid_S (w := w) hx)
    rw [← e] at HI HJ HV HW
    clear hv e hx
    generalize trS s.data.toList = t at *
    generalize trE s.data.toList = te at *
    generalize tiV (val s.data.toList) = ti at *
    generalize tiE (val s.data.toList) = tj at *
    have hb := Below.refl w.heap.size w
    go_enter Tryd.func3, Tryd.ntmps3
    go_wp2_with (first | (go_at_call 11; (with_reducible refine (HT.out).mono ?_); rintro e w' ⟨rfl, rfl⟩) | (go_at_call 13; (with_reducible refine (HR.out).mono ?_); rintro e w' ⟨rfl, rfl⟩) | (go_at_call 12; (with_reducible refine (HI.out).mono ?_); rintro e w' ⟨rfl, rfl⟩) | (go_at_call 14; (with_reducible refine (HJ.out).mono ?_); rintro e w' ⟨rfl, rfl⟩) | (go_at_call 15; (with_reducible refine (HV.out).mono ?_); rintro e w' ⟨rfl, rfl⟩) | (go_at_call 16; (with_reducible refine (HW.out).mono ?_); rintro e w' ⟨rfl, rfl⟩) | (go_at_call 10; (with_reducible refine (lives_any _).mono ?_); rintro e w9 ⟨rfl, hb9⟩; replace hb := bthen hb hb9; clear hb9))
    go_ret
    exact ⟨rfl, hb⟩
set_option maxRecDepth 100000 in
set_option maxHeartbeats 1000000 in
theorem sums_walk (a b : ByteArray) (w : World) (ha : a.size ≤ 9223372036854775807) (hb' : b.size ≤ 9223372036854775807) : Calls Tryd.prog 5 #[.string a, .string b] w fun e w' => e = .returned (.bool true) ∧ Below w.heap.size w w' := by
  cases hva : numV a.data.toList with
  | false =>
    have HV := Lib.hid (rvalid_f (w := w) ha hva)
    clear hva
    have hb := Below.refl w.heap.size w
    go_enter Tryd.func5, Tryd.ntmps5
    go_wp2_with (first | (go_at_call 16; (with_reducible refine (HV.out).mono ?_); rintro e w' ⟨rfl, rfl⟩) | (go_at_call 10; (with_reducible refine (lives_any _).mono ?_); rintro e w9 ⟨rfl, hb9⟩; replace hb := bthen hb hb9; clear hb9))
    go_ret
    exact ⟨rfl, hb⟩
  | true =>
    have hx : (S (val a.data.toList)).size ≤ 600 := by rw [← S_of hva]; exact (numV_iff.1 hva).1
    rw [S_of hva]
    clear ha hva
    generalize val a.data.toList = x at *
    cases hvb : numV b.data.toList with
    | false =>
      have HV := Lib.hid (rvalid_f (w := w) hb' hvb)
      clear hvb
      have hb := Below.refl w.heap.size w
      go_enter Tryd.func5, Tryd.ntmps5
      go_wp2_with (first | (go_at_call 16; (first | (with_reducible refine HV.out.mono ?_) | (with_reducible refine (rvalid_S hx).mono ?_)); rintro e w' ⟨rfl, rfl⟩) | (go_at_call 10; (with_reducible refine (lives_any _).mono ?_); rintro e w9 ⟨rfl, hb9⟩; replace hb := bthen hb hb9; clear hb9))
      go_ret
      exact ⟨rfl, hb⟩
    | true =>
      have hy : (S (val b.data.toList)).size ≤ 600 := by rw [← S_of hvb]; exact (numV_iff.1 hvb).1
      rw [S_of hvb]
      clear hb' hvb
      generalize val b.data.toList = y at *
      have hb := Below.refl w.heap.size w
      go_enter Tryd.func5, Tryd.ntmps5
      go_wp2_with (first | (go_at_call 16; (with_reducible refine (rvalid_S (by omega)).mono ?_); rintro e w' ⟨rfl, rfl⟩) | (go_at_call 19; (with_reducible refine (add_any _ _ _ hx hy).mono ?_); rintro e w1 ⟨rfl, hb1⟩; replace hb := bthen hb hb1; clear hb1) | (go_at_call 20; (with_reducible refine (sub_any _ _ _ hx hy).mono ?_); rintro e w2 ⟨rfl, hb2⟩; replace hb := bthen hb hb2; clear hb2) | (go_at_call 21; (with_reducible refine (radd_any _ _ _ hx hy).mono ?_); rintro e w3 ⟨rfl, hb3⟩; replace hb := bthen hb hb3; clear hb3) | (go_at_call 22; (with_reducible refine (rsub_any _ _ _ hx hy).mono ?_); rintro e w4 ⟨rfl, hb4⟩; replace hb := bthen hb hb4; clear hb4) | (go_at_call 23; (with_reducible refine (cmp_any _ _ _ (by omega) (by omega)).mono ?_); rintro e w' ⟨rfl, rfl⟩) | (go_at_call 24; (with_reducible refine (rcmp_any _ _ _ (by omega) (by omega)).mono ?_); rintro e w' ⟨rfl, rfl⟩) | (go_at_call 10; (with_reducible refine (lives_any _).mono ?_); rintro e w9 ⟨rfl, hb9⟩; replace hb := bthen hb hb9; clear hb9))
      go_ret
      exact ⟨rfl, hb⟩
set_option maxRecDepth 100000 in
set_option maxHeartbeats 1000000 in
theorem products_walk (a b : ByteArray) (w : World) (ha : a.size ≤ 9223372036854775807) (hb' : b.size ≤ 9223372036854775807) : Calls Tryd.prog 6 #[.string a, .string b] w fun e w' => e = .returned (.bool true) ∧ Below w.heap.size w w' := by
  cases hva : numV a.data.toList with
  | false =>
    have HV := Lib.hid (rvalid_f (w := w) ha hva)
    clear hva
    have hb := Below.refl w.heap.size w
    go_enter Tryd.func6, Tryd.ntmps6
    go_wp2_with (first | (go_at_call 16; (with_reducible refine (HV.out).mono ?_); rintro e w' ⟨rfl, rfl⟩) | (go_at_call 10; (with_reducible refine (lives_any _).mono ?_); rintro e w9 ⟨rfl, hb9⟩; replace hb := bthen hb hb9; clear hb9))
    go_ret
    exact ⟨rfl, hb⟩
  | true =>
    have hx : (S (val a.data.toList)).size ≤ 600 := by rw [← S_of hva]; exact (numV_iff.1 hva).1
    rw [S_of hva]
    clear ha hva
    generalize val a.data.toList = x at *
    cases hvb : numV b.data.toList with
    | false =>
      have HV := Lib.hid (rvalid_f (w := w) hb' hvb)
      clear hvb
      have hb := Below.refl w.heap.size w
      go_enter Tryd.func6, Tryd.ntmps6
      go_wp2_with (first | (go_at_call 16; (first | (with_reducible refine HV.out.mono ?_) | (with_reducible refine (rvalid_S hx).mono ?_)); rintro e w' ⟨rfl, rfl⟩) | (go_at_call 10; (with_reducible refine (lives_any _).mono ?_); rintro e w9 ⟨rfl, hb9⟩; replace hb := bthen hb hb9; clear hb9))
      go_ret
      exact ⟨rfl, hb⟩
    | true =>
      have hy : (S (val b.data.toList)).size ≤ 600 := by rw [← S_of hvb]; exact (numV_iff.1 hvb).1
      rw [S_of hvb]
      clear hb' hvb
      generalize val b.data.toList = y at *
      have hb := Below.refl w.heap.size w
      go_enter Tryd.func6, Tryd.ntmps6
      go_wp2_with (first | (go_at_call 16; (with_reducible refine (rvalid_S (by omega)).mono ?_); rintro e w' ⟨rfl, rfl⟩) | (go_at_call 25; (with_reducible refine (mul_any _ _ _ hx hy).mono ?_); rintro e w1 ⟨rfl, hb1⟩; replace hb := bthen hb hb1; clear hb1) | (go_at_call 26; (with_reducible refine (rmul_any _ _ _ hx hy).mono ?_); rintro e w2 ⟨rfl, hb2⟩; replace hb := bthen hb hb2; clear hb2) | (go_at_call 10; (with_reducible refine (lives_any _).mono ?_); rintro e w9 ⟨rfl, hb9⟩; replace hb := bthen hb hb9; clear hb9))
      go_ret
      exact ⟨rfl, hb⟩
set_option maxRecDepth 100000 in
set_option maxHeartbeats 1000000 in
theorem quotients_walk (a b : ByteArray) (w : World) (ha : a.size ≤ 9223372036854775807) (hb' : b.size ≤ 9223372036854775807) : Calls Tryd.prog 7 #[.string a, .string b] w fun e w' => e = .returned (.bool true) ∧ Below w.heap.size w w' := by
  cases hva : numV a.data.toList with
  | false =>
    have HV := Lib.hid (rvalid_f (w := w) ha hva)
    clear hva
    have hb := Below.refl w.heap.size w
    go_enter Tryd.func7, Tryd.ntmps7
    go_wp2_with (first | (go_at_call 16; (with_reducible refine (HV.out).mono ?_); rintro e w' ⟨rfl, rfl⟩) | (go_at_call 10; (with_reducible refine (lives_any _).mono ?_); rintro e w9 ⟨rfl, hb9⟩; replace hb := bthen hb hb9; clear hb9))
    go_ret
    exact ⟨rfl, hb⟩
  | true =>
    have hx : (S (val a.data.toList)).size ≤ 600 := by rw [← S_of hva]; exact (numV_iff.1 hva).1
    rw [S_of hva]
    clear ha hva
    generalize val a.data.toList = x at *
    cases hvb : numV b.data.toList with
    | false =>
      have HV := Lib.hid (rvalid_f (w := w) hb' hvb)
      clear hvb
      have hb := Below.refl w.heap.size w
      go_enter Tryd.func7, Tryd.ntmps7
      go_wp2_with (first | (go_at_call 16; (first | (with_reducible refine HV.out.mono ?_) | (with_reducible refine (rvalid_S hx).mono ?_)); rintro e w' ⟨rfl, rfl⟩) | (go_at_call 10; (with_reducible refine (lives_any _).mono ?_); rintro e w9 ⟨rfl, hb9⟩; replace hb := bthen hb hb9; clear hb9))
      go_ret
      exact ⟨rfl, hb⟩
    | true =>
      have hy : (S (val b.data.toList)).size ≤ 600 := by rw [← S_of hvb]; exact (numV_iff.1 hvb).1
      rw [S_of hvb]
      clear hb' hvb
      generalize val b.data.toList = y at *
      by_cases h0 : y = 0
      · subst h0
        have hb := Below.refl w.heap.size w
        go_enter Tryd.func7, Tryd.ntmps7
        go_wp2_with (first | (go_at_call 16; (with_reducible refine (rvalid_S (by omega)).mono ?_); rintro e w' ⟨rfl, rfl⟩) | (go_at_call 27; (with_reducible refine (quo_zero _ _ hx).mono ?_); rintro e w' ⟨rfl, rfl⟩) | (go_at_call 28; (with_reducible refine (rquo_zero _ _ hx).mono ?_); rintro e w' ⟨rfl, rfl⟩) | (go_at_call 10; (with_reducible refine (lives_any _).mono ?_); rintro e w9 ⟨rfl, hb9⟩; replace hb := bthen hb hb9; clear hb9))
        go_ret
        exact ⟨rfl, hb⟩
      · have h0' : 0 < y := by omega
        have hb := Below.refl w.heap.size w
        go_enter Tryd.func7, Tryd.ntmps7
        go_wp2_with (first | (go_at_call 16; (with_reducible refine (rvalid_S (by omega)).mono ?_); rintro e w' ⟨rfl, rfl⟩) | (go_at_call 27; (with_reducible refine (quo_any _ _ _ hx hy h0').mono ?_); rintro e w1 ⟨rfl, hb1⟩; replace hb := bthen hb hb1; clear hb1) | (go_at_call 28; (with_reducible refine (rquo_any _ _ _ hx hy h0').mono ?_); rintro e w2 ⟨rfl, hb2⟩; replace hb := bthen hb hb2; clear hb2) | (go_at_call 10; (with_reducible refine (lives_any _).mono ?_); rintro e w9 ⟨rfl, hb9⟩; replace hb := bthen hb hb9; clear hb9))
        go_ret
        exact ⟨rfl, hb⟩
set_option maxRecDepth 100000 in
set_option maxHeartbeats 1000000 in
theorem shifts_walk (a : ByteArray) (n : Int) (w : World) (ha : a.size ≤ 9223372036854775807) (hn : -9223372036854775808 ≤ n ∧ n ≤ 9223372036854775807) : Calls Tryd.prog 8 #[.string a, .int .i64 n] w fun e w' => e = .returned (.bool true) ∧ Below w.heap.size w w' := by
  cases hva : numV a.data.toList with
  | false =>
    have HV := Lib.hid (rvalid_f (w := w) ha hva)
    clear hva
    have hb := Below.refl w.heap.size w
    go_enter Tryd.func8, Tryd.ntmps8
    go_wp2_with (first | (go_at_call 16; (with_reducible refine (HV.out).mono ?_); rintro e w' ⟨rfl, rfl⟩) | (go_at_call 10; (with_reducible refine (lives_any _).mono ?_); rintro e w9 ⟨rfl, hb9⟩; replace hb := bthen hb hb9; clear hb9))
    go_ret
    exact ⟨rfl, hb⟩
  | true =>
    have hx : (S (val a.data.toList)).size ≤ 600 := by rw [← S_of hva]; exact (numV_iff.1 hva).1
    rw [S_of hva]
    clear ha hva
    generalize val a.data.toList = x at *
    have hb := Below.refl w.heap.size w
    go_enter Tryd.func8, Tryd.ntmps8
    go_wp2_with (first | (go_at_call 16; (with_reducible refine (rvalid_S (by omega)).mono ?_); rintro e w' ⟨rfl, rfl⟩) | (go_at_call 29; (with_reducible refine (shift_any _ _ _ hx hn).mono ?_); rintro e w1 ⟨rfl, hb1⟩; replace hb := bthen hb hb1; clear hb1) | (go_at_call 30; (with_reducible refine (rshift_any _ _ _ hx hn).mono ?_); rintro e w2 ⟨rfl, hb2⟩; replace hb := bthen hb hb2; clear hb2) | (go_at_call 31; (with_reducible refine (zeros_any _ _ (by omega)).mono ?_); rintro e w' ⟨rfl, rfl⟩) | (go_at_call 32; (with_reducible refine (rzeros_any _ _ (by omega)).mono ?_); rintro e w' ⟨rfl, rfl⟩) | (go_at_call 10; (with_reducible refine (lives_any _).mono ?_); rintro e w9 ⟨rfl, hb9⟩; replace hb := bthen hb hb9; clear hb9))
    go_ret
    exact ⟨rfl, hb⟩
end Go.Proofs.YtiekchldkohkgaaDoor.Dig
