/-
  The reference of package moment: Text. The law MomentTexts.
-/
import Derived.Test.YtbgkldncoigggaaDoorMomW
namespace Go.Proofs.YtbgkldncoigggaaDoor.Mom
open Go.RowKit
set_option linter.unusedVariables false
set_option linter.unusedSimpArgs false
open Go.Proofs.YtbgkldncoigggaaDoor.Cal
set_option maxRecDepth 100000 in
set_option maxHeartbeats 4000000 in
theorem rtext_1 (y m dd n : Nat) (d o : Int) (w : World) (hv : vP 1 d n o) (hb : dayB y m dd = true) (hn : num y m dd = d) : Calls Tryd.prog 14 #[.agg #[.int .i64 1, .int .i64 d, .int .i64 n, .int .i64 o]] w fun e w' => e = .returned (.string (txS 1 y m dd n o)) ∧ Below w.heap.size w w' := by
  have T := T1.new w 1 d n o
  have HV := Lib.hid (fun w => rvalid_any 1 d n o w)
  rw [← vT_yes hv] at HV
  obtain ⟨y1, y2, m1, m2, d1, d2⟩ := dayB_in hb
  have hm31 := (mon_pos y m y1 y2 m1 m2).2
  obtain ⟨e1, e2, e3⟩ := dt_eq hb hn
  have hbd := num_bd hb
  rw [hn] at hbd
  have hv' := hv
  unfold vP at hv'
  have HD : Hid (∀ w, Calls Tryd.prog 34 #[.int .i64 d] w fun e w' => e = .returned (.tuple #[.int .i64 y, .int .i64 m, .int .i64 dd, .int .i64 0]) ∧ w = w') := Lib.hid (fun w => by
    have := rdate_any d w
    rwa [e1, e2, e3, dateE_in hbd] at this)
  have HP1 := Lib.hid (fun (w' : World) => rpad_z (y : Int) y 4 4 rfl rfl w' (by omega) (by omega))
  have HP2 := Lib.hid (fun (w' : World) => rpad_z (m : Int) m 2 2 rfl rfl w' (by omega) (by omega))
  have HP3 := Lib.hid (fun (w' : World) => rpad_z (dd : Int) dd 2 2 rfl rfl w' (by omega) (by omega))
  have HC := Lib.hid (fun (w' : World) => rclock_any n w' (by omega))
  have HZ := Lib.hid (fun (w' : World) => roff_any o w' (by omega))
  have z1 := pdS_size 4 y
  have z2 := pdS_size 2 m
  have z3 := pdS_size 2 dd
  have y2 := clS_size n
  have y3 := znS_size o
  have HX : Hid (pdS 4 y ++ ⟨#[45]⟩ ++ pdS 2 m ++ ⟨#[45]⟩ ++ pdS 2 dd = txS 1 y m dd n o) := Lib.hid rfl
  generalize pdS 4 y = A at *
  generalize pdS 2 m = B at *
  generalize pdS 2 dd = C at *
  generalize clS n = CL at *
  generalize znS o = ZN at *
  obtain ⟨q, z4⟩ : ∃ q, CL.size = q := ⟨_, rfl⟩
  obtain ⟨r, z5⟩ : ∃ r, ZN.size = r := ⟨_, rfl⟩
  rw [z4] at y2
  rw [z5] at y3
  clear hv hv' hb hn e1 e2 e3 hbd hm31 y1 m1 m2 d1 d2
  have c1 : ¬ (9223372036854775807 : Nat) < 4 + 1 + 2 + 1 + 2 + 1 + q := by omega
  have c2 : 4 + 1 + 2 + 1 + 2 + 1 + q ≤ 9223372036854775807 := by omega
  have c3 : 11 + q ≤ 9223372036854775807 := by omega
  have c4 : 4 + 1 + 2 + 1 + 2 + 1 + q + r ≤ 9223372036854775807 := by omega
  have c5 : 11 + q + r ≤ 9223372036854775807 := by omega
  have c6 : ¬ (9223372036854775807 : Nat) < 11 + q := by omega
  have c7 : ¬ (9223372036854775807 : Nat) < 11 + q + r := by omega
  go_enter Tryd.func14, Tryd.ntmps14
  go_wp2_with (first | (go_at_call 12; (with_reducible refine (HV.out _).mono ?_); rintro e w1 ⟨rfl, hX⟩; have T := T1.step hX T; clear hX; obtain ⟨a0, a1, a2, a3⟩ := T.a.cells) | (go_at_call 34; (with_reducible refine (HD.out _).mono ?_); rintro e w1 ⟨rfl, rfl⟩) | (go_at_call 35; first | ((with_reducible refine (HP1.out _).mono ?_); rintro e w1 ⟨rfl, hX⟩; have T := T1.step hX T; clear hX; obtain ⟨a0, a1, a2, a3⟩ := T.a.cells) | ((with_reducible refine (HP2.out _).mono ?_); rintro e w1 ⟨rfl, hX⟩; have T := T1.step hX T; clear hX; obtain ⟨a0, a1, a2, a3⟩ := T.a.cells) | ((with_reducible refine (HP3.out _).mono ?_); rintro e w1 ⟨rfl, hX⟩; have T := T1.step hX T; clear hX; obtain ⟨a0, a1, a2, a3⟩ := T.a.cells)) | (go_at_call 36; (with_reducible refine (HC.out _).mono ?_); rintro e w1 ⟨rfl, hX⟩; have T := T1.step hX T; clear hX; obtain ⟨a0, a1, a2, a3⟩ := T.a.cells))
  go_ret
  exact ⟨ret_str HX.out, T.bel⟩
set_option maxRecDepth 100000 in
set_option maxHeartbeats 4000000 in
theorem rtext_2 (y m dd n : Nat) (d o : Int) (w : World) (hv : vP 2 d n o) (hb : dayB y m dd = true) (hn : num y m dd = d) : Calls Tryd.prog 14 #[.agg #[.int .i64 2, .int .i64 d, .int .i64 n, .int .i64 o]] w fun e w' => e = .returned (.string (txS 2 y m dd n o)) ∧ Below w.heap.size w w' := by
  have T := T1.new w 2 d n o
  have HV := Lib.hid (fun w => rvalid_any 2 d n o w)
  rw [← vT_yes hv] at HV
  obtain ⟨y1, y2, m1, m2, d1, d2⟩ := dayB_in hb
  have hm31 := (mon_pos y m y1 y2 m1 m2).2
  obtain ⟨e1, e2, e3⟩ := dt_eq hb hn
  have hbd := num_bd hb
  rw [hn] at hbd
  have hv' := hv
  unfold vP at hv'
  have HD : Hid (∀ w, Calls Tryd.prog 34 #[.int .i64 d] w fun e w' => e = .returned (.tuple #[.int .i64 y, .int .i64 m, .int .i64 dd, .int .i64 0]) ∧ w = w') := Lib.hid (fun w => by
    have := rdate_any d w
    rwa [e1, e2, e3, dateE_in hbd] at this)
  have HP1 := Lib.hid (fun (w' : World) => rpad_z (y : Int) y 4 4 rfl rfl w' (by omega) (by omega))
  have HP2 := Lib.hid (fun (w' : World) => rpad_z (m : Int) m 2 2 rfl rfl w' (by omega) (by omega))
  have HP3 := Lib.hid (fun (w' : World) => rpad_z (dd : Int) dd 2 2 rfl rfl w' (by omega) (by omega))
  have HC := Lib.hid (fun (w' : World) => rclock_any n w' (by omega))
  have HZ := Lib.hid (fun (w' : World) => roff_any o w' (by omega))
  have z1 := pdS_size 4 y
  have z2 := pdS_size 2 m
  have z3 := pdS_size 2 dd
  have y2 := clS_size n
  have y3 := znS_size o
  have HX : Hid (clS n = txS 2 y m dd n o) := Lib.hid rfl
  generalize pdS 4 y = A at *
  generalize pdS 2 m = B at *
  generalize pdS 2 dd = C at *
  generalize clS n = CL at *
  generalize znS o = ZN at *
  obtain ⟨q, z4⟩ : ∃ q, CL.size = q := ⟨_, rfl⟩
  obtain ⟨r, z5⟩ : ∃ r, ZN.size = r := ⟨_, rfl⟩
  rw [z4] at y2
  rw [z5] at y3
  clear hv hv' hb hn e1 e2 e3 hbd hm31 y1 m1 m2 d1 d2
  have c1 : ¬ (9223372036854775807 : Nat) < 4 + 1 + 2 + 1 + 2 + 1 + q := by omega
  have c2 : 4 + 1 + 2 + 1 + 2 + 1 + q ≤ 9223372036854775807 := by omega
  have c3 : 11 + q ≤ 9223372036854775807 := by omega
  have c4 : 4 + 1 + 2 + 1 + 2 + 1 + q + r ≤ 9223372036854775807 := by omega
  have c5 : 11 + q + r ≤ 9223372036854775807 := by omega
  have c6 : ¬ (9223372036854775807 : Nat) < 11 + q := by omega
  have c7 : ¬ (9223372036854775807 : Nat) < 11 + q + r := by omega
  go_enter Tryd.func14, Tryd.ntmps14
  go_wp2_with (first | (go_at_call 12; (with_reducible refine (HV.out _).mono ?_); rintro e w1 ⟨rfl, hX⟩; have T := T1.step hX T; clear hX; obtain ⟨a0, a1, a2, a3⟩ := T.a.cells) | (go_at_call 34; (with_reducible refine (HD.out _).mono ?_); rintro e w1 ⟨rfl, rfl⟩) | (go_at_call 35; first | ((with_reducible refine (HP1.out _).mono ?_); rintro e w1 ⟨rfl, hX⟩; have T := T1.step hX T; clear hX; obtain ⟨a0, a1, a2, a3⟩ := T.a.cells) | ((with_reducible refine (HP2.out _).mono ?_); rintro e w1 ⟨rfl, hX⟩; have T := T1.step hX T; clear hX; obtain ⟨a0, a1, a2, a3⟩ := T.a.cells) | ((with_reducible refine (HP3.out _).mono ?_); rintro e w1 ⟨rfl, hX⟩; have T := T1.step hX T; clear hX; obtain ⟨a0, a1, a2, a3⟩ := T.a.cells)) | (go_at_call 36; (with_reducible refine (HC.out _).mono ?_); rintro e w1 ⟨rfl, hX⟩; have T := T1.step hX T; clear hX; obtain ⟨a0, a1, a2, a3⟩ := T.a.cells))
  go_ret
  exact ⟨ret_str HX.out, T.bel⟩
set_option maxRecDepth 100000 in
set_option maxHeartbeats 4000000 in
theorem rtext_3 (y m dd n : Nat) (d o : Int) (w : World) (hv : vP 3 d n o) (hb : dayB y m dd = true) (hn : num y m dd = d) : Calls Tryd.prog 14 #[.agg #[.int .i64 3, .int .i64 d, .int .i64 n, .int .i64 o]] w fun e w' => e = .returned (.string (txS 3 y m dd n o)) ∧ Below w.heap.size w w' := by
  have T := T1.new w 3 d n o
  have HV := Lib.hid (fun w => rvalid_any 3 d n o w)
  rw [← vT_yes hv] at HV
  obtain ⟨y1, y2, m1, m2, d1, d2⟩ := dayB_in hb
  have hm31 := (mon_pos y m y1 y2 m1 m2).2
  obtain ⟨e1, e2, e3⟩ := dt_eq hb hn
  have hbd := num_bd hb
  rw [hn] at hbd
  have hv' := hv
  unfold vP at hv'
  have HD : Hid (∀ w, Calls Tryd.prog 34 #[.int .i64 d] w fun e w' => e = .returned (.tuple #[.int .i64 y, .int .i64 m, .int .i64 dd, .int .i64 0]) ∧ w = w') := Lib.hid (fun w => by
    have := rdate_any d w
    rwa [e1, e2, e3, dateE_in hbd] at this)
  have HP1 := Lib.hid (fun (w' : World) => rpad_z (y : Int) y 4 4 rfl rfl w' (by omega) (by omega))
  have HP2 := Lib.hid (fun (w' : World) => rpad_z (m : Int) m 2 2 rfl rfl w' (by omega) (by omega))
  have HP3 := Lib.hid (fun (w' : World) => rpad_z (dd : Int) dd 2 2 rfl rfl w' (by omega) (by omega))
  have HC := Lib.hid (fun (w' : World) => rclock_any n w' (by omega))
  have HZ := Lib.hid (fun (w' : World) => roff_any o w' (by omega))
  have z1 := pdS_size 4 y
  have z2 := pdS_size 2 m
  have z3 := pdS_size 2 dd
  have y2 := clS_size n
  have y3 := znS_size o
  have HX : Hid (pdS 4 y ++ ⟨#[45]⟩ ++ pdS 2 m ++ ⟨#[45]⟩ ++ pdS 2 dd ++ ⟨#[84]⟩ ++ clS n = txS 3 y m dd n o) := Lib.hid rfl
  generalize pdS 4 y = A at *
  generalize pdS 2 m = B at *
  generalize pdS 2 dd = C at *
  generalize clS n = CL at *
  generalize znS o = ZN at *
  obtain ⟨q, z4⟩ : ∃ q, CL.size = q := ⟨_, rfl⟩
  obtain ⟨r, z5⟩ : ∃ r, ZN.size = r := ⟨_, rfl⟩
  rw [z4] at y2
  rw [z5] at y3
  clear hv hv' hb hn e1 e2 e3 hbd hm31 y1 m1 m2 d1 d2
  have c1 : ¬ (9223372036854775807 : Nat) < 4 + 1 + 2 + 1 + 2 + 1 + q := by omega
  have c2 : 4 + 1 + 2 + 1 + 2 + 1 + q ≤ 9223372036854775807 := by omega
  have c3 : 11 + q ≤ 9223372036854775807 := by omega
  have c4 : 4 + 1 + 2 + 1 + 2 + 1 + q + r ≤ 9223372036854775807 := by omega
  have c5 : 11 + q + r ≤ 9223372036854775807 := by omega
  have c6 : ¬ (9223372036854775807 : Nat) < 11 + q := by omega
  have c7 : ¬ (9223372036854775807 : Nat) < 11 + q + r := by omega
  go_enter Tryd.func14, Tryd.ntmps14
  go_wp2_with (first | (go_at_call 12; (with_reducible refine (HV.out _).mono ?_); rintro e w1 ⟨rfl, hX⟩; have T := T1.step hX T; clear hX; obtain ⟨a0, a1, a2, a3⟩ := T.a.cells) | (go_at_call 34; (with_reducible refine (HD.out _).mono ?_); rintro e w1 ⟨rfl, rfl⟩) | (go_at_call 35; first | ((with_reducible refine (HP1.out _).mono ?_); rintro e w1 ⟨rfl, hX⟩; have T := T1.step hX T; clear hX; obtain ⟨a0, a1, a2, a3⟩ := T.a.cells) | ((with_reducible refine (HP2.out _).mono ?_); rintro e w1 ⟨rfl, hX⟩; have T := T1.step hX T; clear hX; obtain ⟨a0, a1, a2, a3⟩ := T.a.cells) | ((with_reducible refine (HP3.out _).mono ?_); rintro e w1 ⟨rfl, hX⟩; have T := T1.step hX T; clear hX; obtain ⟨a0, a1, a2, a3⟩ := T.a.cells)) | (go_at_call 36; (with_reducible refine (HC.out _).mono ?_); rintro e w1 ⟨rfl, hX⟩; have T := T1.step hX T; clear hX; obtain ⟨a0, a1, a2, a3⟩ := T.a.cells))
  go_ret
  exact ⟨ret_str HX.out, T.bel⟩
set_option maxRecDepth 100000 in
set_option maxHeartbeats 4000000 in
theorem rtext_4 (y m dd n : Nat) (d o : Int) (w : World) (hv : vP 4 d n o) (hb : dayB y m dd = true) (hn : num y m dd = d) : Calls Tryd.prog 14 #[.agg #[.int .i64 4, .int .i64 d, .int .i64 n, .int .i64 o]] w fun e w' => e = .returned (.string (txS 4 y m dd n o)) ∧ Below w.heap.size w w' := by
  have T := T1.new w 4 d n o
  have HV := Lib.hid (fun w => rvalid_any 4 d n o w)
  rw [← vT_yes hv] at HV
  obtain ⟨y1, y2, m1, m2, d1, d2⟩ := dayB_in hb
  have hm31 := (mon_pos y m y1 y2 m1 m2).2
  obtain ⟨e1, e2, e3⟩ := dt_eq hb hn
  have hbd := num_bd hb
  rw [hn] at hbd
  have hv' := hv
  unfold vP at hv'
  have HD : Hid (∀ w, Calls Tryd.prog 34 #[.int .i64 d] w fun e w' => e = .returned (.tuple #[.int .i64 y, .int .i64 m, .int .i64 dd, .int .i64 0]) ∧ w = w') := Lib.hid (fun w => by
    have := rdate_any d w
    rwa [e1, e2, e3, dateE_in hbd] at this)
  have HP1 := Lib.hid (fun (w' : World) => rpad_z (y : Int) y 4 4 rfl rfl w' (by omega) (by omega))
  have HP2 := Lib.hid (fun (w' : World) => rpad_z (m : Int) m 2 2 rfl rfl w' (by omega) (by omega))
  have HP3 := Lib.hid (fun (w' : World) => rpad_z (dd : Int) dd 2 2 rfl rfl w' (by omega) (by omega))
  have HC := Lib.hid (fun (w' : World) => rclock_any n w' (by omega))
  have HZ := Lib.hid (fun (w' : World) => roff_any o w' (by omega))
  have z1 := pdS_size 4 y
  have z2 := pdS_size 2 m
  have z3 := pdS_size 2 dd
  have y2 := clS_size n
  have y3 := znS_size o
  have HX : Hid (pdS 4 y ++ ⟨#[45]⟩ ++ pdS 2 m ++ ⟨#[45]⟩ ++ pdS 2 dd ++ ⟨#[84]⟩ ++ clS n ++ znS o = txS 4 y m dd n o) := Lib.hid rfl
  generalize pdS 4 y = A at *
  generalize pdS 2 m = B at *
  generalize pdS 2 dd = C at *
  generalize clS n = CL at *
  generalize znS o = ZN at *
  obtain ⟨q, z4⟩ : ∃ q, CL.size = q := ⟨_, rfl⟩
  obtain ⟨r, z5⟩ : ∃ r, ZN.size = r := ⟨_, rfl⟩
  rw [z4] at y2
  rw [z5] at y3
  clear hv hv' hb hn e1 e2 e3 hbd hm31 y1 m1 m2 d1 d2
  have c1 : ¬ (9223372036854775807 : Nat) < 4 + 1 + 2 + 1 + 2 + 1 + q := by omega
  have c2 : 4 + 1 + 2 + 1 + 2 + 1 + q ≤ 9223372036854775807 := by omega
  have c3 : 11 + q ≤ 9223372036854775807 := by omega
  have c4 : 4 + 1 + 2 + 1 + 2 + 1 + q + r ≤ 9223372036854775807 := by omega
  have c5 : 11 + q + r ≤ 9223372036854775807 := by omega
  have c6 : ¬ (9223372036854775807 : Nat) < 11 + q := by omega
  have c7 : ¬ (9223372036854775807 : Nat) < 11 + q + r := by omega
  go_enter Tryd.func14, Tryd.ntmps14
  go_wp2_with (first | (go_at_call 12; (with_reducible refine (HV.out _).mono ?_); rintro e w1 ⟨rfl, hX⟩; have T := T1.step hX T; clear hX; obtain ⟨a0, a1, a2, a3⟩ := T.a.cells) | (go_at_call 34; (with_reducible refine (HD.out _).mono ?_); rintro e w1 ⟨rfl, rfl⟩) | (go_at_call 35; first | ((with_reducible refine (HP1.out _).mono ?_); rintro e w1 ⟨rfl, hX⟩; have T := T1.step hX T; clear hX; obtain ⟨a0, a1, a2, a3⟩ := T.a.cells) | ((with_reducible refine (HP2.out _).mono ?_); rintro e w1 ⟨rfl, hX⟩; have T := T1.step hX T; clear hX; obtain ⟨a0, a1, a2, a3⟩ := T.a.cells) | ((with_reducible refine (HP3.out _).mono ?_); rintro e w1 ⟨rfl, hX⟩; have T := T1.step hX T; clear hX; obtain ⟨a0, a1, a2, a3⟩ := T.a.cells)) | (go_at_call 36; (with_reducible refine (HC.out _).mono ?_); rintro e w1 ⟨rfl, hX⟩; have T := T1.step hX T; clear hX; obtain ⟨a0, a1, a2, a3⟩ := T.a.cells))
  clear a0 a1 a2 a3
  go_region_held3 (fun (W : World) => T1 w W 4 d n o ∧ W.cell? ⟨w.heap.size, 0, none⟩ = some (.int .i64 4) ∧ W.cell? ⟨w.heap.size, 1, none⟩ = some (.int .i64 d) ∧ W.cell? ⟨w.heap.size, 2, none⟩ = some (.int .i64 n) ∧ W.cell? ⟨w.heap.size, 3, none⟩ = some (.int .i64 o)) ((first | (go_split_ands; exact T1.all (by assumption)) | (go_split_ands; exact T1.all (T1.dr (by assumption))) | (go_split_ands; exact T1.all (T1.step hX (by assumption))))) (first | (go_split_ands; go_at_call 36; (with_reducible refine (HC.out _).mono ?_); rintro e wn ⟨rfl, hX⟩) | (go_split_ands; go_at_call 37; (with_reducible refine (HZ.out _).mono ?_); rintro e wn ⟨rfl, hX⟩))
  rename_i hH
  have bl := hH.1.bel
  clear hH T
  go_wp2
  go_ret
  exact ⟨ret_str HX.out, bl⟩
set_option maxRecDepth 100000 in
set_option maxHeartbeats 4000000 in
theorem rtext_bad (k d n o : Int) (w : World) (hv : ¬ vP k d n o) : Calls Tryd.prog 14 #[.agg #[.int .i64 k, .int .i64 d, .int .i64 n, .int .i64 o]] w fun e w' => e = .returned (.string ⟨#[]⟩) ∧ Below w.heap.size w w' := by
  have T := T1.new w k d n o
  have HV := Lib.hid (fun w => rvalid_any k d n o w)
  rw [← vT_no hv] at HV
  clear hv
  go_enter Tryd.func14, Tryd.ntmps14
  go_wp2_with (go_at_call 12; (with_reducible refine (HV.out _).mono ?_); rintro e w1 ⟨rfl, hX⟩; have T := T1.step hX T; clear hX; obtain ⟨a0, a1, a2, a3⟩ := T.a.cells)
  go_ret
  exact ⟨rfl, T.bel⟩
theorem texts_same (k d n o : Int) : ∃ s : ByteArray, (∀ w, Tb w → Calls Tryd.prog 13 #[.agg #[.int .i64 k, .int .i64 d, .int .i64 n, .int .i64 o]] w fun e w' => e = .returned (.string s) ∧ Below w.heap.size w w') ∧ (∀ w, Calls Tryd.prog 14 #[.agg #[.int .i64 k, .int .i64 d, .int .i64 n, .int .i64 o]] w fun e w' => e = .returned (.string s) ∧ Below w.heap.size w w') := by
  by_cases hv : vP k d n o
  · have hv' := hv
    unfold vP at hv'
    obtain ⟨y, m, dd, hb, hn⟩ := exists_date d (by omega) (by omega)
    obtain ⟨y1, y2, m1, m2, d1, d2⟩ := dayB_in hb
    obtain ⟨y, rfl⟩ := Int.eq_ofNat_of_zero_le (show 0 ≤ y by omega)
    obtain ⟨m, rfl⟩ := Int.eq_ofNat_of_zero_le (show 0 ≤ m by omega)
    obtain ⟨dd, rfl⟩ := Int.eq_ofNat_of_zero_le (show 0 ≤ dd by omega)
    obtain ⟨n, rfl⟩ := Int.eq_ofNat_of_zero_le (show 0 ≤ n by omega)
    have hk : k = 1 ∨ k = 2 ∨ k = 3 ∨ k = 4 := by omega
    refine ⟨txS k y m dd n o, ?_⟩
    rcases hk with rfl | rfl | rfl | rfl
    · exact ⟨fun w ht => text_1 y m dd n d o w hv hb hn ht, fun w => rtext_1 y m dd n d o w hv hb hn⟩
    · exact ⟨fun w ht => text_2 y m dd n d o w hv hb hn ht, fun w => rtext_2 y m dd n d o w hv hb hn⟩
    · exact ⟨fun w ht => text_3 y m dd n d o w hv hb hn ht, fun w => rtext_3 y m dd n d o w hv hb hn⟩
    · exact ⟨fun w ht => text_4 y m dd n d o w hv hb hn ht, fun w => rtext_4 y m dd n d o w hv hb hn⟩
  · exact ⟨⟨#[]⟩, fun w _ => text_bad k d n o w hv, fun w => rtext_bad k d n o w hv⟩
set_option maxRecDepth 100000 in
set_option maxHeartbeats 4000000 in
theorem texts_walk (k d n o : Int) (w : World) (ht : Tb w) : Calls Tryd.prog 3 #[.agg #[.int .i64 k, .int .i64 d, .int .i64 n, .int .i64 o]] w fun e w' => e = .returned (.bool true) ∧ Below w.heap.size w w' := by
  have T := T1.new w k d n o
  have HAW := Lib.hid (fun (w' : World) (hb : Below w.heap.size w w') => awake_any w' (ht.next hb))
  have HV := Lib.hid (fun w => valid_any k d n o w)
  have HRV := Lib.hid (fun w => rvalid_any k d n o w)
  obtain ⟨s, h1, h2⟩ := texts_same k d n o
  have HT := Lib.hid (fun (w' : World) (hb : Below w.heap.size w w') => h1 w' (ht.next hb))
  have HRT := Lib.hid h2
  generalize vT k d n o = v at *
  clear h1 h2 ht
  go_enter Tryd.func3, Tryd.ntmps3
  go_wp2
  go_region_held3 (fun (W : World) => T1 w W k d n o ∧ W.cell? ⟨w.heap.size, 0, none⟩ = some (.int .i64 k) ∧ W.cell? ⟨w.heap.size, 1, none⟩ = some (.int .i64 d) ∧ W.cell? ⟨w.heap.size, 2, none⟩ = some (.int .i64 n) ∧ W.cell? ⟨w.heap.size, 3, none⟩ = some (.int .i64 o)) ((first | (go_split_ands; exact T1.all (by assumption)) | (go_split_ands; exact T1.all (T1.dr (by assumption))) | (go_split_ands; exact T1.all (T1.step hX (by assumption))))) (first | (go_split_ands; go_at_call 11; (with_reducible refine (HV.out _).mono ?_); rintro e wn ⟨rfl, hX⟩) | (go_split_ands; go_at_call 12; (with_reducible refine (HRV.out _).mono ?_); rintro e wn ⟨rfl, hX⟩) | (go_split_ands; go_at_call 13; (with_reducible refine (HT.out _ (T1.bel (by assumption))).mono ?_); rintro e wn ⟨rfl, hX⟩) | (go_split_ands; go_at_call 14; (with_reducible refine (HRT.out _).mono ?_); rintro e wn ⟨rfl, hX⟩) | (go_split_ands; go_at_call 15; (with_reducible refine (HAW.out _ (T1.bel (by assumption))).mono ?_); rintro e wn ⟨rfl, hX⟩))
  rename_i hH
  have bl := hH.1.bel
  clear hH T
  go_wp2
  go_ret
  exact ⟨rfl, bl⟩
end Go.Proofs.YtbgkldncoigggaaDoor.Mom
