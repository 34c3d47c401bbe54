/-
  Package moment: the text of a time.
-/
import Derived.Test.YtkbddelacjjapaaDoorMomI
namespace Go.Proofs.YtkbddelacjjapaaDoor.Mom
open Go.RowKit
set_option linter.unusedVariables false
set_option linter.unusedSimpArgs false
open Go.Proofs.YtkbddelacjjapaaDoor.Cal

/-- A time in a block of its own. -/
structure T1 (w W : World) (k d n o : Int) : Prop where
  a : TB W w.heap.size k d n o
  bel : Below w.heap.size w W
section
variable {w W W' : World} {k d n o : Int}
theorem T1.dr (h : T1 w W k d n o) : T1 w W.drew k d n o := ⟨h.a, h.bel.drew⟩
theorem T1.step (hb : Below W.heap.size W W') (h : T1 w W k d n o) : T1 w W' k d n o := ⟨h.a.below hb h.a.lt, h.bel.trans (hb.mono h.bel.size)⟩
theorem T1.all (h : T1 w W k d n o) : T1 w W k d n o ∧ W.cell? ⟨w.heap.size, 0, none⟩ = some (.int .i64 k) ∧ W.cell? ⟨w.heap.size, 1, none⟩ = some (.int .i64 d) ∧ W.cell? ⟨w.heap.size, 2, none⟩ = some (.int .i64 n) ∧ W.cell? ⟨w.heap.size, 3, none⟩ = some (.int .i64 o) := ⟨h, h.a.cells.1, h.a.cells.2.1, h.a.cells.2.2.1, h.a.cells.2.2.2⟩
end
theorem T1.new (w : World) (k d n o : Int) : T1 w (w.alloc (.cells #[.int .i64 k, .int .i64 d, .int .i64 n, .int .i64 o] 23)) k d n o := ⟨TB.new w k d n o, (Below.refl _ _).alloc (Nat.le_refl _) _⟩
theorem sz_app (a b : ByteArray) : (a ++ b).size = a.size + b.size := ByteArray.size_append
theorem dtS_size (y m d : Nat) : (dtS y m d).size = 10 := by
  unfold dtS
  rw [sz_app, sz_app, sz_app, sz_app, pdS_size, pdS_size, pdS_size]; rfl
theorem clS_size (n : Nat) : (clS n).size ≤ 18 := by
  have h3 : (cl3 n).size = 8 := by unfold cl3; rw [sz_app, sz_app, sz_app, sz_app, pdS_size, pdS_size, pdS_size]; rfl
  unfold clS
  split
  · omega
  · have := tr0_size (pd 9 (n % 1000000000))
    rw [pd_len] at this
    rw [sz_app, sz_app, h3]
    have h1 : (⟨#[46]⟩ : ByteArray).size = 1 := rfl
    omega
theorem znS_size (o : Int) : (znS o).size ≤ 6 := by
  unfold znS
  split
  · show 1 ≤ 6; omega
  · have h1 : (⟨#[45]⟩ : ByteArray).size = 1 := rfl
    have h2 : (⟨#[43]⟩ : ByteArray).size = 1 := rfl
    have h3 : (⟨#[58]⟩ : ByteArray).size = 1 := rfl
    rw [sz_app, sz_app, sz_app, pdS_size, pdS_size]
    split <;> omega
def txS (k : Int) (y m d n : Nat) (o : Int) : ByteArray := if k = 1 then dtS y m d else if k = 2 then clS n else if k = 3 then dtS y m d ++ ⟨#[84]⟩ ++ clS n else dtS y m d ++ ⟨#[84]⟩ ++ clS n ++ znS o
set_option maxRecDepth 100000 in
set_option maxHeartbeats 4000000 in
theorem text_1 (y m dd n : Nat) (d o : Int) (w : World) (hv : vP 1 d n o) (hb : dayB y m dd = true) (hn : num y m dd = d) (ht : Tb w) : Calls Tryd.prog 9 #[.agg #[.int .i64 1, .int .i64 d, .int .i64 n, .int .i64 o]] w fun e w' => e = .returned (.string (txS 1 y m dd n o)) ∧ Below w.heap.size w w' := by
  have T := T1.new w 1 d n o
  have HV := Lib.hid (fun w => valid_any 1 d n o w)
  rw [← vT_yes hv] at HV
  have hv' := hv
  unfold vP at hv'
  have HD := Lib.hid (fun (w' : World) (hb' : Below w.heap.size w w') => mdate_any y m dd d w' hb hn (ht.next hb'))
  have HC := Lib.hid (fun (w' : World) (hb' : Below w.heap.size w w') => clock_any n w' (by omega) (ht.next hb'))
  have HZ := Lib.hid (fun (w' : World) (hb' : Below w.heap.size w w') => mzone_any o w' (by omega) (ht.next hb'))
  have z1 := dtS_size y m dd
  have z2 := clS_size n
  have z3 := znS_size o
  have HX : Hid (dtS y m dd = txS 1 y m dd n o) := Lib.hid rfl
  generalize dtS y m dd = D at *
  generalize clS n = C at *
  generalize znS o = Z at *
  clear hv hv' hb hn ht
  go_enter Tryd.func9, Tryd.ntmps9
  go_wp2_with (first | (go_at_call 6; (with_reducible refine (HV.out _).mono ?_); rintro e w1 ⟨rfl, hX⟩; have T := T1.step hX T; clear hX; obtain ⟨a0, a1, a2, a3⟩ := T.a.cells) | (go_at_call 17; (with_reducible refine (HD.out _ T.bel).mono ?_); rintro e w1 ⟨rfl, hX⟩; have T := T1.step hX T; clear hX))
  go_ret
  exact ⟨ret_str HX.out, T.bel⟩
set_option maxRecDepth 100000 in
set_option maxHeartbeats 4000000 in
theorem text_2 (y m dd n : Nat) (d o : Int) (w : World) (hv : vP 2 d n o) (hb : dayB y m dd = true) (hn : num y m dd = d) (ht : Tb w) : Calls Tryd.prog 9 #[.agg #[.int .i64 2, .int .i64 d, .int .i64 n, .int .i64 o]] w fun e w' => e = .returned (.string (txS 2 y m dd n o)) ∧ Below w.heap.size w w' := by
  have T := T1.new w 2 d n o
  have HV := Lib.hid (fun w => valid_any 2 d n o w)
  rw [← vT_yes hv] at HV
  have hv' := hv
  unfold vP at hv'
  have HD := Lib.hid (fun (w' : World) (hb' : Below w.heap.size w w') => mdate_any y m dd d w' hb hn (ht.next hb'))
  have HC := Lib.hid (fun (w' : World) (hb' : Below w.heap.size w w') => clock_any n w' (by omega) (ht.next hb'))
  have HZ := Lib.hid (fun (w' : World) (hb' : Below w.heap.size w w') => mzone_any o w' (by omega) (ht.next hb'))
  have z1 := dtS_size y m dd
  have z2 := clS_size n
  have z3 := znS_size o
  have HX : Hid (clS n = txS 2 y m dd n o) := Lib.hid rfl
  generalize dtS y m dd = D at *
  generalize clS n = C at *
  generalize znS o = Z at *
  clear hv hv' hb hn ht
  go_enter Tryd.func9, Tryd.ntmps9
  go_wp2_with (first | (go_at_call 6; (with_reducible refine (HV.out _).mono ?_); rintro e w1 ⟨rfl, hX⟩; have T := T1.step hX T; clear hX; obtain ⟨a0, a1, a2, a3⟩ := T.a.cells) | (go_at_call 18; (with_reducible refine (HC.out _ T.bel).mono ?_); rintro e w1 ⟨rfl, hX⟩; have T := T1.step hX T; clear hX))
  go_ret
  exact ⟨ret_str HX.out, T.bel⟩
set_option maxRecDepth 100000 in
set_option maxHeartbeats 4000000 in
theorem text_3 (y m dd n : Nat) (d o : Int) (w : World) (hv : vP 3 d n o) (hb : dayB y m dd = true) (hn : num y m dd = d) (ht : Tb w) : Calls Tryd.prog 9 #[.agg #[.int .i64 3, .int .i64 d, .int .i64 n, .int .i64 o]] w fun e w' => e = .returned (.string (txS 3 y m dd n o)) ∧ Below w.heap.size w w' := by
  have T := T1.new w 3 d n o
  have HV := Lib.hid (fun w => valid_any 3 d n o w)
  rw [← vT_yes hv] at HV
  have hv' := hv
  unfold vP at hv'
  have HD := Lib.hid (fun (w' : World) (hb' : Below w.heap.size w w') => mdate_any y m dd d w' hb hn (ht.next hb'))
  have HC := Lib.hid (fun (w' : World) (hb' : Below w.heap.size w w') => clock_any n w' (by omega) (ht.next hb'))
  have HZ := Lib.hid (fun (w' : World) (hb' : Below w.heap.size w w') => mzone_any o w' (by omega) (ht.next hb'))
  have z1 := dtS_size y m dd
  have z2 := clS_size n
  have z3 := znS_size o
  have HX : Hid (dtS y m dd ++ ⟨#[84]⟩ ++ clS n = txS 3 y m dd n o) := Lib.hid rfl
  generalize dtS y m dd = D at *
  generalize clS n = C at *
  generalize znS o = Z at *
  clear hv hv' hb hn ht
  have c1 : ¬ 9223372036854775807 < D.size + 1 := by omega
  have c2 : D.size + 1 ≤ 9223372036854775807 := by omega
  have c3 : ¬ 9223372036854775807 < D.size + 1 + C.size := by omega
  have c4 : D.size + 1 + C.size ≤ 9223372036854775807 := by omega
  have c5 : ¬ 9223372036854775807 < D.size + 1 + C.size + Z.size := by omega
  have c6 : D.size + 1 + C.size + Z.size ≤ 9223372036854775807 := by omega
  clear z1 z2 z3
  go_enter Tryd.func9, Tryd.ntmps9
  go_wp2_with (go_at_call 6; (with_reducible refine (HV.out _).mono ?_); rintro e w1 ⟨rfl, hX⟩; have T := T1.step hX T; clear hX; obtain ⟨a0, a1, a2, a3⟩ := T.a.cells)
  clear a0 a1 a2 a3
  go_region_held3 (fun (W : World) => T1 w W 3 d n o ∧ W.cell? ⟨w.heap.size, 0, none⟩ = some (.int .i64 3) ∧ W.cell? ⟨w.heap.size, 1, none⟩ = some (.int .i64 d) ∧ W.cell? ⟨w.heap.size, 2, none⟩ = some (.int .i64 n) ∧ W.cell? ⟨w.heap.size, 3, none⟩ = some (.int .i64 o)) ((first | (go_split_ands; exact T1.all (by assumption)) | (go_split_ands; exact T1.all (T1.dr (by assumption))) | (go_split_ands; exact T1.all (T1.step hX (by assumption))))) (first | (go_split_ands; go_at_call 17; (with_reducible refine (HD.out _ (T1.bel (by assumption))).mono ?_); rintro e wn ⟨rfl, hX⟩) | (go_split_ands; go_at_call 18; (with_reducible refine (HC.out _ (T1.bel (by assumption))).mono ?_); rintro e wn ⟨rfl, hX⟩) | (go_split_ands; go_at_call 19; (with_reducible refine (HZ.out _ (T1.bel (by assumption))).mono ?_); rintro e wn ⟨rfl, hX⟩))
  rename_i hH
  have bl := hH.1.bel
  clear hH T
  go_wp2
  go_ret
  exact ⟨ret_str HX.out, bl⟩
set_option maxRecDepth 100000 in
set_option maxHeartbeats 4000000 in
theorem text_4 (y m dd n : Nat) (d o : Int) (w : World) (hv : vP 4 d n o) (hb : dayB y m dd = true) (hn : num y m dd = d) (ht : Tb w) : Calls Tryd.prog 9 #[.agg #[.int .i64 4, .int .i64 d, .int .i64 n, .int .i64 o]] w fun e w' => e = .returned (.string (txS 4 y m dd n o)) ∧ Below w.heap.size w w' := by
  have T := T1.new w 4 d n o
  have HV := Lib.hid (fun w => valid_any 4 d n o w)
  rw [← vT_yes hv] at HV
  have hv' := hv
  unfold vP at hv'
  have HD := Lib.hid (fun (w' : World) (hb' : Below w.heap.size w w') => mdate_any y m dd d w' hb hn (ht.next hb'))
  have HC := Lib.hid (fun (w' : World) (hb' : Below w.heap.size w w') => clock_any n w' (by omega) (ht.next hb'))
  have HZ := Lib.hid (fun (w' : World) (hb' : Below w.heap.size w w') => mzone_any o w' (by omega) (ht.next hb'))
  have z1 := dtS_size y m dd
  have z2 := clS_size n
  have z3 := znS_size o
  have HX : Hid (dtS y m dd ++ ⟨#[84]⟩ ++ clS n ++ znS o = txS 4 y m dd n o) := Lib.hid rfl
  generalize dtS y m dd = D at *
  generalize clS n = C at *
  generalize znS o = Z at *
  clear hv hv' hb hn ht
  have c1 : ¬ 9223372036854775807 < D.size + 1 := by omega
  have c2 : D.size + 1 ≤ 9223372036854775807 := by omega
  have c3 : ¬ 9223372036854775807 < D.size + 1 + C.size := by omega
  have c4 : D.size + 1 + C.size ≤ 9223372036854775807 := by omega
  have c5 : ¬ 9223372036854775807 < D.size + 1 + C.size + Z.size := by omega
  have c6 : D.size + 1 + C.size + Z.size ≤ 9223372036854775807 := by omega
  clear z1 z2 z3
  go_enter Tryd.func9, Tryd.ntmps9
  go_wp2_with (go_at_call 6; (with_reducible refine (HV.out _).mono ?_); rintro e w1 ⟨rfl, hX⟩; have T := T1.step hX T; clear hX; obtain ⟨a0, a1, a2, a3⟩ := T.a.cells)
  clear a0 a1 a2 a3
  go_region_held3 (fun (W : World) => T1 w W 4 d n o ∧ W.cell? ⟨w.heap.size, 0, none⟩ = some (.int .i64 4) ∧ W.cell? ⟨w.heap.size, 1, none⟩ = some (.int .i64 d) ∧ W.cell? ⟨w.heap.size, 2, none⟩ = some (.int .i64 n) ∧ W.cell? ⟨w.heap.size, 3, none⟩ = some (.int .i64 o)) ((first | (go_split_ands; exact T1.all (by assumption)) | (go_split_ands; exact T1.all (T1.dr (by assumption))) | (go_split_ands; exact T1.all (T1.step hX (by assumption))))) (first | (go_split_ands; go_at_call 17; (with_reducible refine (HD.out _ (T1.bel (by assumption))).mono ?_); rintro e wn ⟨rfl, hX⟩) | (go_split_ands; go_at_call 18; (with_reducible refine (HC.out _ (T1.bel (by assumption))).mono ?_); rintro e wn ⟨rfl, hX⟩) | (go_split_ands; go_at_call 19; (with_reducible refine (HZ.out _ (T1.bel (by assumption))).mono ?_); rintro e wn ⟨rfl, hX⟩))
  rename_i hH
  have bl := hH.1.bel
  clear hH T
  go_wp2
  go_ret
  exact ⟨ret_str HX.out, bl⟩
set_option maxRecDepth 100000 in
set_option maxHeartbeats 4000000 in
theorem text_bad (k d n o : Int) (w : World) (hv : ¬ vP k d n o) : Calls Tryd.prog 9 #[.agg #[.int .i64 k, .int .i64 d, .int .i64 n, .int .i64 o]] w fun e w' => e = .returned (.string ⟨#[]⟩) ∧ Below w.heap.size w w' := by
  have T := T1.new w k d n o
  have HV := Lib.hid (fun w => valid_any k d n o w)
  rw [← vT_no hv] at HV
  clear hv
  go_enter Tryd.func9, Tryd.ntmps9
  go_wp2_with (go_at_call 6; (with_reducible refine (HV.out _).mono ?_); rintro e w1 ⟨rfl, hX⟩; have T := T1.step hX T; clear hX; obtain ⟨a0, a1, a2, a3⟩ := T.a.cells)
  go_ret
  exact ⟨rfl, T.bel⟩
end Go.Proofs.YtkbddelacjjapaaDoor.Mom
