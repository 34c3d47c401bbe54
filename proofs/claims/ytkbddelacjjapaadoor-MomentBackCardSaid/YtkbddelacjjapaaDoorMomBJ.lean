/-
  Package moment's reference: what any text says.
-/
import Derived.Test.YtkbddelacjjapaaDoorMomBI
import Derived.Test.YtkbddelacjjapaaDoorCalRefMore
namespace Go.Proofs.YtkbddelacjjapaaDoor.Mom
open Go.RowKit
set_option linter.unusedVariables false
set_option linter.unusedSimpArgs false
open Go.Proofs.YtkbddelacjjapaaDoor.Cal

/-- A result that is no time yet, in a block of its own. -/
structure RB (w W : World) : Prop where
  R : TB W w.heap.size 0 0 0 0
  bel : Below w.heap.size w W
theorem RB.new (w : World) : RB w (w.alloc (.cells #[.int .i64 0, .int .i64 0, .int .i64 0, .int .i64 0] 23)) := ⟨TB.new w 0 0 0 0, (Below.refl _ _).alloc (Nat.le_refl _) _⟩
theorem RB.step {w W W' : World} (h : RB w W) (hX : Below W.heap.size W W') : RB w W' := ⟨h.R.below hX h.R.lt, h.bel.trans (hX.mono h.bel.size)⟩
theorem RB.dr {w W : World} (h : RB w W) : RB w W.drew := ⟨h.R, h.bel.drew⟩
theorem RB.al {w W : World} (h : RB w W) (x : Obj) : RB w (W.alloc x) := ⟨h.R.alloc x, h.bel.alloc h.bel.size x⟩
/-- A result and a time, in blocks of their own. -/
structure RT (w W : World) (A : Nat) (k d n o : Int) : Prop where
  R : TB W w.heap.size 0 0 0 0
  T : TB W A k d n o
  lt : w.heap.size < A
  bel : Below w.heap.size w W
theorem RT.new {w W : World} (h : RB w W) (k d n o : Int) : RT w (W.alloc (.cells #[.int .i64 k, .int .i64 d, .int .i64 n, .int .i64 o] 23)) W.heap.size k d n o := ⟨h.R.alloc _, TB.new W k d n o, h.R.lt, h.bel.alloc h.bel.size _⟩
theorem RT.step {w W W' : World} {A : Nat} {k d n o : Int} (h : RT w W A k d n o) (hX : Below W.heap.size W W') : RT w W' A k d n o := ⟨h.R.below hX h.R.lt, h.T.below hX h.T.lt, h.lt, h.bel.trans (hX.mono h.bel.size)⟩
set_option maxRecDepth 100000 in
set_option maxHeartbeats 8000000 in
theorem rparse_n1 (s : ByteArray) (w : World) (N : Int) (hf : formL (sub s.data.toList 0 10) p10 = false) (B : Bool) (HT : Hid (∀ w, Calls Tryd.prog 25 #[.string s] w fun e w' => e = .returned (.tuple #[.int .i64 N, .string ⟨#[]⟩, .bool false, .bool B]) ∧ Below w.heap.size w w')) : Calls Tryd.prog 13 #[.string s] w fun e w' => e = .returned (.tuple #[.agg #[.int .i64 0, .int .i64 0, .int .i64 0, .int .i64 0], .int .i64 3]) ∧ Below w.heap.size w w' := by
  have HM := Lib.hid (fun w => like_any s ⟨#[100, 100, 100, 100, 45, 100, 100, 45, 100, 100]⟩ w (by decide))
  rw [show likeL s.data.toList (⟨#[100, 100, 100, 100, 45, 100, 100, 45, 100, 100]⟩ : ByteArray).data.toList = false by rw [← hf]; exact like_sub _ _ _ 10 (by decide) rfl (by decide)] at HM
  have T := RB.new w
  clear hf
  go_enter Tryd.func13, Tryd.ntmps13
  go_wp2_with (first | (go_at_call 24; (with_reducible refine (HM.out _).mono ?_); rintro e w1 ⟨rfl, hX⟩; have T := T.step hX; clear hX) | (go_at_call 25; (with_reducible refine (HT.out _).mono ?_); rintro e w3 ⟨rfl, hX⟩; have T := T.step hX; clear hX; obtain ⟨c0, c1, c2, c3⟩ := T.R.cells; have y0 := T.R.fz 0; have y1 := T.R.fz 1; have y2 := T.R.fz 2; have y3 := T.R.fz 3))
  exact bodyPost_ret (v := .tuple #[.agg #[.int .i64 0, .int .i64 0, .int .i64 0, .int .i64 0], .int .i64 3]) (by simp [results, Tryd.results13, go_sem, c0, c1, c2, c3]) rfl ⟨rfl, ((((T.bel.setCell (by simp; try omega) _).setCell (by simp; try omega) _).setCell (by simp; try omega) _).setCell (by simp; try omega) _)⟩
set_option maxRecDepth 100000 in
set_option maxHeartbeats 8000000 in
theorem rparse_n2 (s : ByteArray) (w : World) (N : Int) (hf : formL (sub s.data.toList 0 10) p10 = false) (B : Bool) (r : ByteArray) (hr : r.data.toList ≠ []) (HT : Hid (∀ w, Calls Tryd.prog 25 #[.string s] w fun e w' => e = .returned (.tuple #[.int .i64 N, .string r, .bool true, .bool B]) ∧ Below w.heap.size w w')) : Calls Tryd.prog 13 #[.string s] w fun e w' => e = .returned (.tuple #[.agg #[.int .i64 0, .int .i64 0, .int .i64 0, .int .i64 0], .int .i64 3]) ∧ Below w.heap.size w w' := by
  have HM := Lib.hid (fun w => like_any s ⟨#[100, 100, 100, 100, 45, 100, 100, 45, 100, 100]⟩ w (by decide))
  rw [show likeL s.data.toList (⟨#[100, 100, 100, 100, 45, 100, 100, 45, 100, 100]⟩ : ByteArray).data.toList = false by rw [← hf]; exact like_sub _ _ _ 10 (by decide) rfl (by decide)] at HM
  have r1 : r.toList.isEmpty = false := by
    rw [toList_data]
    cases hc : r.data.toList with
    | nil => exact absurd hc hr
    | cons _ _ => rfl
  have r2 : ¬ r.toList = [] := by intro e; rw [e] at r1; cases r1
  clear hr
  have T := RB.new w
  clear hf
  go_enter Tryd.func13, Tryd.ntmps13
  go_wp2_with (first | (go_at_call 24; (with_reducible refine (HM.out _).mono ?_); rintro e w1 ⟨rfl, hX⟩; have T := T.step hX; clear hX) | (go_at_call 25; (with_reducible refine (HT.out _).mono ?_); rintro e w3 ⟨rfl, hX⟩; have T := T.step hX; clear hX; obtain ⟨c0, c1, c2, c3⟩ := T.R.cells; have y0 := T.R.fz 0; have y1 := T.R.fz 1; have y2 := T.R.fz 2; have y3 := T.R.fz 3))
  exact bodyPost_ret (v := .tuple #[.agg #[.int .i64 0, .int .i64 0, .int .i64 0, .int .i64 0], .int .i64 3]) (by simp [results, Tryd.results13, go_sem, c0, c1, c2, c3]) rfl ⟨rfl, ((((T.bel.setCell (by simp; try omega) _).setCell (by simp; try omega) _).setCell (by simp; try omega) _).setCell (by simp; try omega) _)⟩
set_option maxRecDepth 100000 in
set_option maxHeartbeats 8000000 in
theorem rparse_n3 (s : ByteArray) (w : World) (N : Int) (hf : formL (sub s.data.toList 0 10) p10 = false) (HT : Hid (∀ w, Calls Tryd.prog 25 #[.string s] w fun e w' => e = .returned (.tuple #[.int .i64 N, .string ⟨#[]⟩, .bool true, .bool false]) ∧ Below w.heap.size w w')) : Calls Tryd.prog 13 #[.string s] w fun e w' => e = .returned (.tuple #[.agg #[.int .i64 0, .int .i64 0, .int .i64 0, .int .i64 0], .int .i64 2]) ∧ Below w.heap.size w w' := by
  have HM := Lib.hid (fun w => like_any s ⟨#[100, 100, 100, 100, 45, 100, 100, 45, 100, 100]⟩ w (by decide))
  rw [show likeL s.data.toList (⟨#[100, 100, 100, 100, 45, 100, 100, 45, 100, 100]⟩ : ByteArray).data.toList = false by rw [← hf]; exact like_sub _ _ _ 10 (by decide) rfl (by decide)] at HM
  have T := RB.new w
  clear hf
  go_enter Tryd.func13, Tryd.ntmps13
  go_wp2_with (first | (go_at_call 24; (with_reducible refine (HM.out _).mono ?_); rintro e w1 ⟨rfl, hX⟩; have T := T.step hX; clear hX) | (go_at_call 25; (with_reducible refine (HT.out _).mono ?_); rintro e w3 ⟨rfl, hX⟩; have T := T.step hX; clear hX; obtain ⟨c0, c1, c2, c3⟩ := T.R.cells; have y0 := T.R.fz 0; have y1 := T.R.fz 1; have y2 := T.R.fz 2; have y3 := T.R.fz 3))
  exact bodyPost_ret (v := .tuple #[.agg #[.int .i64 0, .int .i64 0, .int .i64 0, .int .i64 0], .int .i64 2]) (by simp [results, Tryd.results13, go_sem, c0, c1, c2, c3]) rfl ⟨rfl, ((((T.bel.setCell (by simp; try omega) _).setCell (by simp; try omega) _).setCell (by simp; try omega) _).setCell (by simp; try omega) _)⟩
set_option maxRecDepth 100000 in
set_option maxHeartbeats 8000000 in
theorem rparse_n4 (s : ByteArray) (w : World) (N : Int) (hf : formL (sub s.data.toList 0 10) p10 = false) (HT : Hid (∀ w, Calls Tryd.prog 25 #[.string s] w fun e w' => e = .returned (.tuple #[.int .i64 N, .string ⟨#[]⟩, .bool true, .bool true]) ∧ Below w.heap.size w w')) : Calls Tryd.prog 13 #[.string s] w fun e w' => e = .returned (.tuple #[.agg #[.int .i64 2, .int .i64 0, .int .i64 N, .int .i64 0], .int .i64 0]) ∧ Below w.heap.size w w' := by
  have HM := Lib.hid (fun w => like_any s ⟨#[100, 100, 100, 100, 45, 100, 100, 45, 100, 100]⟩ w (by decide))
  rw [show likeL s.data.toList (⟨#[100, 100, 100, 100, 45, 100, 100, 45, 100, 100]⟩ : ByteArray).data.toList = false by rw [← hf]; exact like_sub _ _ _ 10 (by decide) rfl (by decide)] at HM
  have T := RB.new w
  clear hf
  go_enter Tryd.func13, Tryd.ntmps13
  go_wp2_with (first | (go_at_call 24; (with_reducible refine (HM.out _).mono ?_); rintro e w1 ⟨rfl, hX⟩; have T := T.step hX; clear hX) | (go_at_call 25; (with_reducible refine (HT.out _).mono ?_); rintro e w3 ⟨rfl, hX⟩; have T := T.step hX; clear hX; obtain ⟨c0, c1, c2, c3⟩ := T.R.cells; have y0 := T.R.fz 0; have y1 := T.R.fz 1; have y2 := T.R.fz 2; have y3 := T.R.fz 3))
  exact bodyPost_ret (v := .tuple #[.agg #[.int .i64 2, .int .i64 0, .int .i64 N, .int .i64 0], .int .i64 0]) (by simp [results, Tryd.results13, go_sem, c0, c1, c2, c3]) rfl ⟨rfl, ((((T.bel.setCell (by simp; try omega) _).setCell (by simp; try omega) _).setCell (by simp; try omega) _).setCell (by simp; try omega) _)⟩
set_option maxRecDepth 100000 in
set_option maxHeartbeats 8000000 in
theorem rparse_d1 (s : ByteArray) (w : World) (y mo d : Nat) (D ER : Int) (hs : 10 ≤ s.size) (hf : formL (sub s.data.toList 0 10) p10 = true) (a1 : nvl (sub s.data.toList 0 4) = y) (a2 : nvl (sub s.data.toList 5 7) = mo) (a3 : nvl (sub s.data.toList 8 10) = d) (HD : Hid (∀ w, Calls Tryd.prog 26 #[.int .i64 y, .int .i64 mo, .int .i64 d] w fun e w' => e = .returned (.tuple #[.int .i64 D, .int .i64 ER]) ∧ w = w')) (s10 : ByteArray) (h10 : s.extract 10 s.size = s10) (he : s10.data.toList = []) (hE : ER ≠ 0) : Calls Tryd.prog 13 #[.string s] w fun e w' => e = .returned (.tuple #[.agg #[.int .i64 0, .int .i64 0, .int .i64 0, .int .i64 0], .int .i64 ER]) ∧ Below w.heap.size w w' := by
  have n1 := sub_num hf 0 4 (by decide) (by decide) (idx2 _ (by decide))
  have n2 := sub_num hf 5 7 (by decide) (by decide) (idx2 _ (by decide))
  have n3 := sub_num hf 8 10 (by decide) (by decide) (idx2 _ (by decide))
  have HN1 := Lib.hid (fun w => rnum_at (s.extract 0 4) y w (by rw [ex_sub, n1.1]; decide) (by rw [ex_sub]; exact n1.2.1) (by rw [ex_sub]; exact a1))
  have HN2 := Lib.hid (fun w => rnum_at (s.extract 5 7) mo w (by rw [ex_sub, n2.1]; decide) (by rw [ex_sub]; exact n2.2.1) (by rw [ex_sub]; exact a2))
  have HN3 := Lib.hid (fun w => rnum_at (s.extract 8 10) d w (by rw [ex_sub, n3.1]; decide) (by rw [ex_sub]; exact n3.2.1) (by rw [ex_sub]; exact a3))
  have h14 : (4 : Int) ≤ s.size := by omega
  have h15 : (5 : Int) ≤ s.size := by omega
  have h17 : (7 : Int) ≤ s.size := by omega
  have h18 : (8 : Int) ≤ s.size := by omega
  have h19 : (10 : Int) ≤ s.size := by omega
  obtain ⟨f1, hf1⟩ : ∃ d0, s.extract 0 4 = d0 := ⟨_, rfl⟩
  obtain ⟨f2, hf2⟩ : ∃ d0, s.extract 5 7 = d0 := ⟨_, rfl⟩
  obtain ⟨f3, hf3⟩ : ∃ d0, s.extract 8 10 = d0 := ⟨_, rfl⟩
  rw [hf1] at HN1
  rw [hf2] at HN2
  rw [hf3] at HN3
  have HM := Lib.hid (fun w => like_any s ⟨#[100, 100, 100, 100, 45, 100, 100, 45, 100, 100]⟩ w (by decide))
  rw [show likeL s.data.toList (⟨#[100, 100, 100, 100, 45, 100, 100, 45, 100, 100]⟩ : ByteArray).data.toList = true by rw [← hf]; exact like_sub _ _ _ 10 (by decide) rfl (by decide)] at HM
  have T := RB.new w
  have r1 : s10.toList.isEmpty = true := by rw [toList_data, he]; rfl
  have r2 : s10.toList = [] := by rw [toList_data, he]
  clear he
  have hEb : (ER != 0) = true := by rw [bne_iff_ne]; exact hE
  clear hf a1 a2 a3 n1 n2 n3
  go_enter Tryd.func13, Tryd.ntmps13
  go_wp2_with (go_at_call 24; (with_reducible refine (HM.out _).mono ?_); rintro e w1 ⟨rfl, hX⟩; have T := T.step hX; clear hX)
  go_region_held3 (fun (W : World) => RB w W ∧ True) ((first | (exact ⟨by assumption, trivial⟩) | (go_split_ands; exact ⟨by assumption, trivial⟩) | (go_split_ands; exact ⟨RB.dr (by assumption), trivial⟩) | (go_split_ands; exact ⟨RB.step (by assumption) hX, trivial⟩))) (first | (go_at_call 27; first | ((with_reducible refine (HN1.out _).mono ?_); rintro e wn ⟨rfl, hX⟩) | ((with_reducible refine (HN2.out _).mono ?_); rintro e wn ⟨rfl, hX⟩) | ((with_reducible refine (HN3.out _).mono ?_); rintro e wn ⟨rfl, hX⟩)) | (go_at_call 26; (with_reducible refine (HD.out _).mono ?_); rintro e wn ⟨rfl, rfl⟩))
  rename_i hH
  have T := hH.1
  clear hH
  obtain ⟨c0, c1, c2, c3⟩ := T.R.cells
  have y0 := T.R.fz 0
  have y1 := T.R.fz 1
  have y2 := T.R.fz 2
  have y3 := T.R.fz 3
  go_wp2
  exact bodyPost_ret (v := .tuple #[.agg #[.int .i64 0, .int .i64 0, .int .i64 0, .int .i64 0], .int .i64 ER]) (by simp [results, Tryd.results13, go_sem, c0, c1, c2, c3]) rfl ⟨rfl, ((((T.bel.setCell (by simp; try omega) _).setCell (by simp; try omega) _).setCell (by simp; try omega) _).setCell (by simp; try omega) _)⟩
set_option maxRecDepth 100000 in
set_option maxHeartbeats 8000000 in
theorem rparse_d2 (s : ByteArray) (w : World) (y mo d : Nat) (D ER : Int) (hs : 10 ≤ s.size) (hf : formL (sub s.data.toList 0 10) p10 = true) (a1 : nvl (sub s.data.toList 0 4) = y) (a2 : nvl (sub s.data.toList 5 7) = mo) (a3 : nvl (sub s.data.toList 8 10) = d) (HD : Hid (∀ w, Calls Tryd.prog 26 #[.int .i64 y, .int .i64 mo, .int .i64 d] w fun e w' => e = .returned (.tuple #[.int .i64 D, .int .i64 ER]) ∧ w = w')) (s10 : ByteArray) (h10 : s.extract 10 s.size = s10) (he : s10.data.toList = []) (hE : ER = 0) : Calls Tryd.prog 13 #[.string s] w fun e w' => e = .returned (.tuple #[.agg #[.int .i64 1, .int .i64 D, .int .i64 0, .int .i64 0], .int .i64 0]) ∧ Below w.heap.size w w' := by
  have n1 := sub_num hf 0 4 (by decide) (by decide) (idx2 _ (by decide))
  have n2 := sub_num hf 5 7 (by decide) (by decide) (idx2 _ (by decide))
  have n3 := sub_num hf 8 10 (by decide) (by decide) (idx2 _ (by decide))
  have HN1 := Lib.hid (fun w => rnum_at (s.extract 0 4) y w (by rw [ex_sub, n1.1]; decide) (by rw [ex_sub]; exact n1.2.1) (by rw [ex_sub]; exact a1))
  have HN2 := Lib.hid (fun w => rnum_at (s.extract 5 7) mo w (by rw [ex_sub, n2.1]; decide) (by rw [ex_sub]; exact n2.2.1) (by rw [ex_sub]; exact a2))
  have HN3 := Lib.hid (fun w => rnum_at (s.extract 8 10) d w (by rw [ex_sub, n3.1]; decide) (by rw [ex_sub]; exact n3.2.1) (by rw [ex_sub]; exact a3))
  have h14 : (4 : Int) ≤ s.size := by omega
  have h15 : (5 : Int) ≤ s.size := by omega
  have h17 : (7 : Int) ≤ s.size := by omega
  have h18 : (8 : Int) ≤ s.size := by omega
  have h19 : (10 : Int) ≤ s.size := by omega
  obtain ⟨f1, hf1⟩ : ∃ d0, s.extract 0 4 = d0 := ⟨_, rfl⟩
  obtain ⟨f2, hf2⟩ : ∃ d0, s.extract 5 7 = d0 := ⟨_, rfl⟩
  obtain ⟨f3, hf3⟩ : ∃ d0, s.extract 8 10 = d0 := ⟨_, rfl⟩
  rw [hf1] at HN1
  rw [hf2] at HN2
  rw [hf3] at HN3
  have HM := Lib.hid (fun w => like_any s ⟨#[100, 100, 100, 100, 45, 100, 100, 45, 100, 100]⟩ w (by decide))
  rw [show likeL s.data.toList (⟨#[100, 100, 100, 100, 45, 100, 100, 45, 100, 100]⟩ : ByteArray).data.toList = true by rw [← hf]; exact like_sub _ _ _ 10 (by decide) rfl (by decide)] at HM
  have T := RB.new w
  have r1 : s10.toList.isEmpty = true := by rw [toList_data, he]; rfl
  have r2 : s10.toList = [] := by rw [toList_data, he]
  clear he
  have hEb : (ER != 0) = false := by rw [bne_eq_false_iff_eq]; exact hE
  clear hf a1 a2 a3 n1 n2 n3
  go_enter Tryd.func13, Tryd.ntmps13
  go_wp2_with (go_at_call 24; (with_reducible refine (HM.out _).mono ?_); rintro e w1 ⟨rfl, hX⟩; have T := T.step hX; clear hX)
  go_region_held3 (fun (W : World) => RB w W ∧ True) ((first | (exact ⟨by assumption, trivial⟩) | (go_split_ands; exact ⟨by assumption, trivial⟩) | (go_split_ands; exact ⟨RB.dr (by assumption), trivial⟩) | (go_split_ands; exact ⟨RB.step (by assumption) hX, trivial⟩))) (first | (go_at_call 27; first | ((with_reducible refine (HN1.out _).mono ?_); rintro e wn ⟨rfl, hX⟩) | ((with_reducible refine (HN2.out _).mono ?_); rintro e wn ⟨rfl, hX⟩) | ((with_reducible refine (HN3.out _).mono ?_); rintro e wn ⟨rfl, hX⟩)) | (go_at_call 26; (with_reducible refine (HD.out _).mono ?_); rintro e wn ⟨rfl, rfl⟩))
  rename_i hH
  have T := hH.1
  clear hH
  obtain ⟨c0, c1, c2, c3⟩ := T.R.cells
  have y0 := T.R.fz 0
  have y1 := T.R.fz 1
  have y2 := T.R.fz 2
  have y3 := T.R.fz 3
  go_wp2
  exact bodyPost_ret (v := .tuple #[.agg #[.int .i64 1, .int .i64 D, .int .i64 0, .int .i64 0], .int .i64 0]) (by simp [results, Tryd.results13, go_sem, c0, c1, c2, c3]) rfl ⟨rfl, ((((T.bel.setCell (by simp; try omega) _).setCell (by simp; try omega) _).setCell (by simp; try omega) _).setCell (by simp; try omega) _)⟩
set_option maxRecDepth 100000 in
set_option maxHeartbeats 8000000 in
theorem rparse_d3 (s : ByteArray) (w : World) (y mo d : Nat) (D ER : Int) (hs : 10 ≤ s.size) (hf : formL (sub s.data.toList 0 10) p10 = true) (a1 : nvl (sub s.data.toList 0 4) = y) (a2 : nvl (sub s.data.toList 5 7) = mo) (a3 : nvl (sub s.data.toList 8 10) = d) (HD : Hid (∀ w, Calls Tryd.prog 26 #[.int .i64 y, .int .i64 mo, .int .i64 d] w fun e w' => e = .returned (.tuple #[.int .i64 D, .int .i64 ER]) ∧ w = w')) (s10 : ByteArray) (h10 : s.extract 10 s.size = s10) (he : s10.data.toList ≠ []) (hb : ∀ hh : 0 < s10.size, (s10[0]'hh).toNat ≠ 84 ∧ (s10[0]'hh).toNat ≠ 116 ∧ (s10[0]'hh).toNat ≠ 32) : Calls Tryd.prog 13 #[.string s] w fun e w' => e = .returned (.tuple #[.agg #[.int .i64 0, .int .i64 0, .int .i64 0, .int .i64 0], .int .i64 3]) ∧ Below w.heap.size w w' := by
  have n1 := sub_num hf 0 4 (by decide) (by decide) (idx2 _ (by decide))
  have n2 := sub_num hf 5 7 (by decide) (by decide) (idx2 _ (by decide))
  have n3 := sub_num hf 8 10 (by decide) (by decide) (idx2 _ (by decide))
  have HN1 := Lib.hid (fun w => rnum_at (s.extract 0 4) y w (by rw [ex_sub, n1.1]; decide) (by rw [ex_sub]; exact n1.2.1) (by rw [ex_sub]; exact a1))
  have HN2 := Lib.hid (fun w => rnum_at (s.extract 5 7) mo w (by rw [ex_sub, n2.1]; decide) (by rw [ex_sub]; exact n2.2.1) (by rw [ex_sub]; exact a2))
  have HN3 := Lib.hid (fun w => rnum_at (s.extract 8 10) d w (by rw [ex_sub, n3.1]; decide) (by rw [ex_sub]; exact n3.2.1) (by rw [ex_sub]; exact a3))
  have h14 : (4 : Int) ≤ s.size := by omega
  have h15 : (5 : Int) ≤ s.size := by omega
  have h17 : (7 : Int) ≤ s.size := by omega
  have h18 : (8 : Int) ≤ s.size := by omega
  have h19 : (10 : Int) ≤ s.size := by omega
  obtain ⟨f1, hf1⟩ : ∃ d0, s.extract 0 4 = d0 := ⟨_, rfl⟩
  obtain ⟨f2, hf2⟩ : ∃ d0, s.extract 5 7 = d0 := ⟨_, rfl⟩
  obtain ⟨f3, hf3⟩ : ∃ d0, s.extract 8 10 = d0 := ⟨_, rfl⟩
  rw [hf1] at HN1
  rw [hf2] at HN2
  rw [hf3] at HN3
  have HM := Lib.hid (fun w => like_any s ⟨#[100, 100, 100, 100, 45, 100, 100, 45, 100, 100]⟩ w (by decide))
  rw [show likeL s.data.toList (⟨#[100, 100, 100, 100, 45, 100, 100, 45, 100, 100]⟩ : ByteArray).data.toList = true by rw [← hf]; exact like_sub _ _ _ 10 (by decide) rfl (by decide)] at HM
  have T := RB.new w
  have z0 : 0 < s10.size := by
    show 0 < s10.data.toList.length
    cases hc : s10.data.toList with
    | nil => exact absurd hc he
    | cons _ _ => simp
  have z1 : (0 : Int) < s10.size := by omega
  have z2 : (1 : Int) ≤ s10.size := by omega
  have r1 : s10.toList.isEmpty = false := by
    rw [toList_data]
    cases hc : s10.data.toList with
    | nil => exact absurd hc he
    | cons _ _ => rfl
  have r2 : ¬ s10.toList = [] := by intro e; rw [e] at r1; cases r1
  clear he
  obtain ⟨q1, q2, q3⟩ := hb z0
  have t1 : ((s10[0].toNat : Int) != 84) = true := by rw [bne_iff_ne]; omega
  have t2 : ((s10[0].toNat : Int) != 116) = true := by rw [bne_iff_ne]; omega
  have t3 : ((s10[0].toNat : Int) != 32) = true := by rw [bne_iff_ne]; omega
  clear q1 q2 q3 hb
  clear hf a1 a2 a3 n1 n2 n3
  go_enter Tryd.func13, Tryd.ntmps13
  go_wp2_with (go_at_call 24; (with_reducible refine (HM.out _).mono ?_); rintro e w1 ⟨rfl, hX⟩; have T := T.step hX; clear hX)
  go_region_held3 (fun (W : World) => RB w W ∧ True) ((first | (exact ⟨by assumption, trivial⟩) | (go_split_ands; exact ⟨by assumption, trivial⟩) | (go_split_ands; exact ⟨RB.dr (by assumption), trivial⟩) | (go_split_ands; exact ⟨RB.step (by assumption) hX, trivial⟩))) (first | (go_at_call 27; first | ((with_reducible refine (HN1.out _).mono ?_); rintro e wn ⟨rfl, hX⟩) | ((with_reducible refine (HN2.out _).mono ?_); rintro e wn ⟨rfl, hX⟩) | ((with_reducible refine (HN3.out _).mono ?_); rintro e wn ⟨rfl, hX⟩)) | (go_at_call 26; (with_reducible refine (HD.out _).mono ?_); rintro e wn ⟨rfl, rfl⟩))
  rename_i hH
  have T := hH.1
  clear hH
  obtain ⟨c0, c1, c2, c3⟩ := T.R.cells
  have y0 := T.R.fz 0
  have y1 := T.R.fz 1
  have y2 := T.R.fz 2
  have y3 := T.R.fz 3
  go_wp2
  exact bodyPost_ret (v := .tuple #[.agg #[.int .i64 0, .int .i64 0, .int .i64 0, .int .i64 0], .int .i64 3]) (by simp [results, Tryd.results13, go_sem, c0, c1, c2, c3]) rfl ⟨rfl, ((((T.bel.setCell (by simp; try omega) _).setCell (by simp; try omega) _).setCell (by simp; try omega) _).setCell (by simp; try omega) _)⟩
set_option maxRecDepth 100000 in
set_option maxHeartbeats 8000000 in
theorem rparse_t1 (s : ByteArray) (w : World) (y mo d : Nat) (D ER : Int) (hs : 10 ≤ s.size) (hf : formL (sub s.data.toList 0 10) p10 = true) (a1 : nvl (sub s.data.toList 0 4) = y) (a2 : nvl (sub s.data.toList 5 7) = mo) (a3 : nvl (sub s.data.toList 8 10) = d) (HD : Hid (∀ w, Calls Tryd.prog 26 #[.int .i64 y, .int .i64 mo, .int .i64 d] w fun e w' => e = .returned (.tuple #[.int .i64 D, .int .i64 ER]) ∧ w = w')) (s10 : ByteArray) (h10 : s.extract 10 s.size = s10) (he : s10.data.toList ≠ []) (hb : ∀ hh : 0 < s10.size, (s10[0]'hh).toNat = 84 ∨ (s10[0]'hh).toNat = 116 ∨ (s10[0]'hh).toNat = 32) (s11 : ByteArray) (h11 : s10.extract 1 s10.size = s11) (N : Int) (B : Bool) (HT : Hid (∀ w, Calls Tryd.prog 25 #[.string s11] w fun e w' => e = .returned (.tuple #[.int .i64 N, .string ⟨#[]⟩, .bool false, .bool B]) ∧ Below w.heap.size w w')) : Calls Tryd.prog 13 #[.string s] w fun e w' => e = .returned (.tuple #[.agg #[.int .i64 0, .int .i64 0, .int .i64 0, .int .i64 0], .int .i64 3]) ∧ Below w.heap.size w w' := by
  have n1 := sub_num hf 0 4 (by decide) (by decide) (idx2 _ (by decide))
  have n2 := sub_num hf 5 7 (by decide) (by decide) (idx2 _ (by decide))
  have n3 := sub_num hf 8 10 (by decide) (by decide) (idx2 _ (by decide))
  have HN1 := Lib.hid (fun w => rnum_at (s.extract 0 4) y w (by rw [ex_sub, n1.1]; decide) (by rw [ex_sub]; exact n1.2.1) (by rw [ex_sub]; exact a1))
  have HN2 := Lib.hid (fun w => rnum_at (s.extract 5 7) mo w (by rw [ex_sub, n2.1]; decide) (by rw [ex_sub]; exact n2.2.1) (by rw [ex_sub]; exact a2))
  have HN3 := Lib.hid (fun w => rnum_at (s.extract 8 10) d w (by rw [ex_sub, n3.1]; decide) (by rw [ex_sub]; exact n3.2.1) (by rw [ex_sub]; exact a3))
  have h14 : (4 : Int) ≤ s.size := by omega
  have h15 : (5 : Int) ≤ s.size := by omega
  have h17 : (7 : Int) ≤ s.size := by omega
  have h18 : (8 : Int) ≤ s.size := by omega
  have h19 : (10 : Int) ≤ s.size := by omega
  obtain ⟨f1, hf1⟩ : ∃ d0, s.extract 0 4 = d0 := ⟨_, rfl⟩
  obtain ⟨f2, hf2⟩ : ∃ d0, s.extract 5 7 = d0 := ⟨_, rfl⟩
  obtain ⟨f3, hf3⟩ : ∃ d0, s.extract 8 10 = d0 := ⟨_, rfl⟩
  rw [hf1] at HN1
  rw [hf2] at HN2
  rw [hf3] at HN3
  have HM := Lib.hid (fun w => like_any s ⟨#[100, 100, 100, 100, 45, 100, 100, 45, 100, 100]⟩ w (by decide))
  rw [show likeL s.data.toList (⟨#[100, 100, 100, 100, 45, 100, 100, 45, 100, 100]⟩ : ByteArray).data.toList = true by rw [← hf]; exact like_sub _ _ _ 10 (by decide) rfl (by decide)] at HM
  have T := RB.new w
  have z0 : 0 < s10.size := by
    show 0 < s10.data.toList.length
    cases hc : s10.data.toList with
    | nil => exact absurd hc he
    | cons _ _ => simp
  have z1 : (0 : Int) < s10.size := by omega
  have z2 : (1 : Int) ≤ s10.size := by omega
  have r1 : s10.toList.isEmpty = false := by
    rw [toList_data]
    cases hc : s10.data.toList with
    | nil => exact absurd hc he
    | cons _ _ => rfl
  have r2 : ¬ s10.toList = [] := by intro e; rw [e] at r1; cases r1
  clear he
  have HSEP := Lib.hid (hb z0)
  clear hb
  clear hf a1 a2 a3 n1 n2 n3
  go_enter Tryd.func13, Tryd.ntmps13
  go_wp2_with (go_at_call 24; (with_reducible refine (HM.out _).mono ?_); rintro e w1 ⟨rfl, hX⟩; have T := T.step hX; clear hX)
  go_region_held3 (fun (W : World) => RB w W ∧ True) ((first | (exact ⟨by assumption, trivial⟩) | (go_split_ands; exact ⟨by assumption, trivial⟩) | (go_split_ands; exact ⟨RB.dr (by assumption), trivial⟩) | (go_split_ands; exact ⟨RB.step (by assumption) hX, trivial⟩))) (first | (go_at_call 27; first | ((with_reducible refine (HN1.out _).mono ?_); rintro e wn ⟨rfl, hX⟩) | ((with_reducible refine (HN2.out _).mono ?_); rintro e wn ⟨rfl, hX⟩) | ((with_reducible refine (HN3.out _).mono ?_); rintro e wn ⟨rfl, hX⟩)) | (go_at_call 26; (with_reducible refine (HD.out _).mono ?_); rintro e wn ⟨rfl, rfl⟩))
  rename_i hH
  have T := hH.1
  clear hH
  go_upto_region 14 with fail
  go_cut [75] (fun t75 wx => t75 = .bool false ∧ RB w wx)
  case first =>
    rcases HSEP.out with q | q | q
    · have t1 : ((s10[0].toNat : Int) != 84) = false := by rw [q]; rfl
      go_wp2
      go_meet
      exact ⟨rfl, T⟩
    · have t1 : ((s10[0].toNat : Int) != 84) = true := by rw [q]; rfl
      have t2 : ((s10[0].toNat : Int) != 116) = false := by rw [q]; rfl
      go_wp2
      go_meet
      exact ⟨rfl, T⟩
    · have t1 : ((s10[0].toNat : Int) != 84) = true := by rw [q]; rfl
      have t2 : ((s10[0].toNat : Int) != 116) = true := by rw [q]; rfl
      have t3 : ((s10[0].toNat : Int) != 32) = false := by rw [q]; rfl
      go_wp2
      go_meet
      exact ⟨rfl, T⟩
  case rest =>
    clear T HSEP
    obtain ⟨rfl, T⟩ := hcut
    go_wp2_with (go_at_call 25; (with_reducible refine (HT.out _).mono ?_); rintro e w3 ⟨rfl, hX⟩; have T := T.step hX; clear hX; obtain ⟨c0, c1, c2, c3⟩ := T.R.cells; have y0 := T.R.fz 0; have y1 := T.R.fz 1; have y2 := T.R.fz 2; have y3 := T.R.fz 3)
    exact bodyPost_ret (v := .tuple #[.agg #[.int .i64 0, .int .i64 0, .int .i64 0, .int .i64 0], .int .i64 3]) (by simp [results, Tryd.results13, go_sem, c0, c1, c2, c3]) rfl ⟨rfl, ((((T.bel.setCell (by simp; try omega) _).setCell (by simp; try omega) _).setCell (by simp; try omega) _).setCell (by simp; try omega) _)⟩
set_option maxRecDepth 100000 in
set_option maxHeartbeats 8000000 in
theorem rparse_t2 (s : ByteArray) (w : World) (y mo d : Nat) (D ER : Int) (hs : 10 ≤ s.size) (hf : formL (sub s.data.toList 0 10) p10 = true) (a1 : nvl (sub s.data.toList 0 4) = y) (a2 : nvl (sub s.data.toList 5 7) = mo) (a3 : nvl (sub s.data.toList 8 10) = d) (HD : Hid (∀ w, Calls Tryd.prog 26 #[.int .i64 y, .int .i64 mo, .int .i64 d] w fun e w' => e = .returned (.tuple #[.int .i64 D, .int .i64 ER]) ∧ w = w')) (s10 : ByteArray) (h10 : s.extract 10 s.size = s10) (he : s10.data.toList ≠ []) (hb : ∀ hh : 0 < s10.size, (s10[0]'hh).toNat = 84 ∨ (s10[0]'hh).toNat = 116 ∨ (s10[0]'hh).toNat = 32) (s11 : ByteArray) (h11 : s10.extract 1 s10.size = s11) (N : Int) (B : Bool) (hq : ER ≠ 0 ∨ (ER = 0 ∧ B = false)) (HT : Hid (∀ w, Calls Tryd.prog 25 #[.string s11] w fun e w' => e = .returned (.tuple #[.int .i64 N, .string ⟨#[]⟩, .bool true, .bool B]) ∧ Below w.heap.size w w')) : Calls Tryd.prog 13 #[.string s] w fun e w' => e = .returned (.tuple #[.agg #[.int .i64 0, .int .i64 0, .int .i64 0, .int .i64 0], .int .i64 2]) ∧ Below w.heap.size w w' := by
  have n1 := sub_num hf 0 4 (by decide) (by decide) (idx2 _ (by decide))
  have n2 := sub_num hf 5 7 (by decide) (by decide) (idx2 _ (by decide))
  have n3 := sub_num hf 8 10 (by decide) (by decide) (idx2 _ (by decide))
  have HN1 := Lib.hid (fun w => rnum_at (s.extract 0 4) y w (by rw [ex_sub, n1.1]; decide) (by rw [ex_sub]; exact n1.2.1) (by rw [ex_sub]; exact a1))
  have HN2 := Lib.hid (fun w => rnum_at (s.extract 5 7) mo w (by rw [ex_sub, n2.1]; decide) (by rw [ex_sub]; exact n2.2.1) (by rw [ex_sub]; exact a2))
  have HN3 := Lib.hid (fun w => rnum_at (s.extract 8 10) d w (by rw [ex_sub, n3.1]; decide) (by rw [ex_sub]; exact n3.2.1) (by rw [ex_sub]; exact a3))
  have h14 : (4 : Int) ≤ s.size := by omega
  have h15 : (5 : Int) ≤ s.size := by omega
  have h17 : (7 : Int) ≤ s.size := by omega
  have h18 : (8 : Int) ≤ s.size := by omega
  have h19 : (10 : Int) ≤ s.size := by omega
  obtain ⟨f1, hf1⟩ : ∃ d0, s.extract 0 4 = d0 := ⟨_, rfl⟩
  obtain ⟨f2, hf2⟩ : ∃ d0, s.extract 5 7 = d0 := ⟨_, rfl⟩
  obtain ⟨f3, hf3⟩ : ∃ d0, s.extract 8 10 = d0 := ⟨_, rfl⟩
  rw [hf1] at HN1
  rw [hf2] at HN2
  rw [hf3] at HN3
  have HM := Lib.hid (fun w => like_any s ⟨#[100, 100, 100, 100, 45, 100, 100, 45, 100, 100]⟩ w (by decide))
  rw [show likeL s.data.toList (⟨#[100, 100, 100, 100, 45, 100, 100, 45, 100, 100]⟩ : ByteArray).data.toList = true by rw [← hf]; exact like_sub _ _ _ 10 (by decide) rfl (by decide)] at HM
  have T := RB.new w
  have z0 : 0 < s10.size := by
    show 0 < s10.data.toList.length
    cases hc : s10.data.toList with
    | nil => exact absurd hc he
    | cons _ _ => simp
  have z1 : (0 : Int) < s10.size := by omega
  have z2 : (1 : Int) ≤ s10.size := by omega
  have r1 : s10.toList.isEmpty = false := by
    rw [toList_data]
    cases hc : s10.data.toList with
    | nil => exact absurd hc he
    | cons _ _ => rfl
  have r2 : ¬ s10.toList = [] := by intro e; rw [e] at r1; cases r1
  clear he
  have HSEP := Lib.hid (hb z0)
  clear hb
  clear hf a1 a2 a3 n1 n2 n3
  go_enter Tryd.func13, Tryd.ntmps13
  go_wp2_with (go_at_call 24; (with_reducible refine (HM.out _).mono ?_); rintro e w1 ⟨rfl, hX⟩; have T := T.step hX; clear hX)
  go_region_held3 (fun (W : World) => RB w W ∧ True) ((first | (exact ⟨by assumption, trivial⟩) | (go_split_ands; exact ⟨by assumption, trivial⟩) | (go_split_ands; exact ⟨RB.dr (by assumption), trivial⟩) | (go_split_ands; exact ⟨RB.step (by assumption) hX, trivial⟩))) (first | (go_at_call 27; first | ((with_reducible refine (HN1.out _).mono ?_); rintro e wn ⟨rfl, hX⟩) | ((with_reducible refine (HN2.out _).mono ?_); rintro e wn ⟨rfl, hX⟩) | ((with_reducible refine (HN3.out _).mono ?_); rintro e wn ⟨rfl, hX⟩)) | (go_at_call 26; (with_reducible refine (HD.out _).mono ?_); rintro e wn ⟨rfl, rfl⟩))
  rename_i hH
  have T := hH.1
  clear hH
  go_upto_region 14 with fail
  go_cut [75] (fun t75 wx => t75 = .bool false ∧ RB w wx)
  case first =>
    rcases HSEP.out with q | q | q
    · have t1 : ((s10[0].toNat : Int) != 84) = false := by rw [q]; rfl
      go_wp2
      go_meet
      exact ⟨rfl, T⟩
    · have t1 : ((s10[0].toNat : Int) != 84) = true := by rw [q]; rfl
      have t2 : ((s10[0].toNat : Int) != 116) = false := by rw [q]; rfl
      go_wp2
      go_meet
      exact ⟨rfl, T⟩
    · have t1 : ((s10[0].toNat : Int) != 84) = true := by rw [q]; rfl
      have t2 : ((s10[0].toNat : Int) != 116) = true := by rw [q]; rfl
      have t3 : ((s10[0].toNat : Int) != 32) = false := by rw [q]; rfl
      go_wp2
      go_meet
      exact ⟨rfl, T⟩
  case rest =>
    clear T HSEP
    obtain ⟨rfl, T⟩ := hcut
    rcases hq with hq | ⟨hq, rfl⟩
    · have hEb : (ER != 0) = true := by rw [bne_iff_ne]; exact hq
      clear hq
      go_wp2_with (go_at_call 25; (with_reducible refine (HT.out _).mono ?_); rintro e w3 ⟨rfl, hX⟩; have T := RT.new (T.step hX) 3 D N 0; clear hX; obtain ⟨c0, c1, c2, c3⟩ := T.R.cells; have y0 := T.R.fz 0; have y1 := T.R.fz 1; have y2 := T.R.fz 2; have y3 := T.R.fz 3; obtain ⟨a0, a1, a2, a3⟩ := T.T.cells)
      exact bodyPost_ret (v := .tuple #[.agg #[.int .i64 0, .int .i64 0, .int .i64 0, .int .i64 0], .int .i64 2]) (by simp [results, Tryd.results13, go_sem, c0, c1, c2, c3]) rfl ⟨rfl, ((((T.bel.setCell (by simp; try omega) _).setCell (by simp; try omega) _).setCell (by simp; try omega) _).setCell (by simp; try omega) _)⟩
    · have hEb : (ER != 0) = false := by rw [bne_eq_false_iff_eq]; exact hq
      clear hq
      go_wp2_with (go_at_call 25; (with_reducible refine (HT.out _).mono ?_); rintro e w3 ⟨rfl, hX⟩; have T := RT.new (T.step hX) 3 D N 0; clear hX; obtain ⟨c0, c1, c2, c3⟩ := T.R.cells; have y0 := T.R.fz 0; have y1 := T.R.fz 1; have y2 := T.R.fz 2; have y3 := T.R.fz 3; obtain ⟨a0, a1, a2, a3⟩ := T.T.cells)
      exact bodyPost_ret (v := .tuple #[.agg #[.int .i64 0, .int .i64 0, .int .i64 0, .int .i64 0], .int .i64 2]) (by simp [results, Tryd.results13, go_sem, c0, c1, c2, c3]) rfl ⟨rfl, ((((T.bel.setCell (by simp; try omega) _).setCell (by simp; try omega) _).setCell (by simp; try omega) _).setCell (by simp; try omega) _)⟩
set_option maxRecDepth 100000 in
set_option maxHeartbeats 8000000 in
theorem rparse_t3 (s : ByteArray) (w : World) (y mo d : Nat) (D ER : Int) (hs : 10 ≤ s.size) (hf : formL (sub s.data.toList 0 10) p10 = true) (a1 : nvl (sub s.data.toList 0 4) = y) (a2 : nvl (sub s.data.toList 5 7) = mo) (a3 : nvl (sub s.data.toList 8 10) = d) (HD : Hid (∀ w, Calls Tryd.prog 26 #[.int .i64 y, .int .i64 mo, .int .i64 d] w fun e w' => e = .returned (.tuple #[.int .i64 D, .int .i64 ER]) ∧ w = w')) (s10 : ByteArray) (h10 : s.extract 10 s.size = s10) (he : s10.data.toList ≠ []) (hb : ∀ hh : 0 < s10.size, (s10[0]'hh).toNat = 84 ∨ (s10[0]'hh).toNat = 116 ∨ (s10[0]'hh).toNat = 32) (s11 : ByteArray) (h11 : s10.extract 1 s10.size = s11) (N : Int) (hq : ER = 0) (HT : Hid (∀ w, Calls Tryd.prog 25 #[.string s11] w fun e w' => e = .returned (.tuple #[.int .i64 N, .string ⟨#[]⟩, .bool true, .bool true]) ∧ Below w.heap.size w w')) : Calls Tryd.prog 13 #[.string s] w fun e w' => e = .returned (.tuple #[.agg #[.int .i64 3, .int .i64 D, .int .i64 N, .int .i64 0], .int .i64 0]) ∧ Below w.heap.size w w' := by
  have n1 := sub_num hf 0 4 (by decide) (by decide) (idx2 _ (by decide))
  have n2 := sub_num hf 5 7 (by decide) (by decide) (idx2 _ (by decide))
  have n3 := sub_num hf 8 10 (by decide) (by decide) (idx2 _ (by decide))
  have HN1 := Lib.hid (fun w => rnum_at (s.extract 0 4) y w (by rw [ex_sub, n1.1]; decide) (by rw [ex_sub]; exact n1.2.1) (by rw [ex_sub]; exact a1))
  have HN2 := Lib.hid (fun w => rnum_at (s.extract 5 7) mo w (by rw [ex_sub, n2.1]; decide) (by rw [ex_sub]; exact n2.2.1) (by rw [ex_sub]; exact a2))
  have HN3 := Lib.hid (fun w => rnum_at (s.extract 8 10) d w (by rw [ex_sub, n3.1]; decide) (by rw [ex_sub]; exact n3.2.1) (by rw [ex_sub]; exact a3))
  have h14 : (4 : Int) ≤ s.size := by omega
  have h15 : (5 : Int) ≤ s.size := by omega
  have h17 : (7 : Int) ≤ s.size := by omega
  have h18 : (8 : Int) ≤ s.size := by omega
  have h19 : (10 : Int) ≤ s.size := by omega
  obtain ⟨f1, hf1⟩ : ∃ d0, s.extract 0 4 = d0 := ⟨_, rfl⟩
  obtain ⟨f2, hf2⟩ : ∃ d0, s.extract 5 7 = d0 := ⟨_, rfl⟩
  obtain ⟨f3, hf3⟩ : ∃ d0, s.extract 8 10 = d0 := ⟨_, rfl⟩
  rw [hf1] at HN1
  rw [hf2] at HN2
  rw [hf3] at HN3
  have HM := Lib.hid (fun w => like_any s ⟨#[100, 100, 100, 100, 45, 100, 100, 45, 100, 100]⟩ w (by decide))
  rw [show likeL s.data.toList (⟨#[100, 100, 100, 100, 45, 100, 100, 45, 100, 100]⟩ : ByteArray).data.toList = true by rw [← hf]; exact like_sub _ _ _ 10 (by decide) rfl (by decide)] at HM
  have T := RB.new w
  have z0 : 0 < s10.size := by
    show 0 < s10.data.toList.length
    cases hc : s10.data.toList with
    | nil => exact absurd hc he
    | cons _ _ => simp
  have z1 : (0 : Int) < s10.size := by omega
  have z2 : (1 : Int) ≤ s10.size := by omega
  have r1 : s10.toList.isEmpty = false := by
    rw [toList_data]
    cases hc : s10.data.toList with
    | nil => exact absurd hc he
    | cons _ _ => rfl
  have r2 : ¬ s10.toList = [] := by intro e; rw [e] at r1; cases r1
  clear he
  have HSEP := Lib.hid (hb z0)
  clear hb
  clear hf a1 a2 a3 n1 n2 n3
  go_enter Tryd.func13, Tryd.ntmps13
  go_wp2_with (go_at_call 24; (with_reducible refine (HM.out _).mono ?_); rintro e w1 ⟨rfl, hX⟩; have T := T.step hX; clear hX)
  go_region_held3 (fun (W : World) => RB w W ∧ True) ((first | (exact ⟨by assumption, trivial⟩) | (go_split_ands; exact ⟨by assumption, trivial⟩) | (go_split_ands; exact ⟨RB.dr (by assumption), trivial⟩) | (go_split_ands; exact ⟨RB.step (by assumption) hX, trivial⟩))) (first | (go_at_call 27; first | ((with_reducible refine (HN1.out _).mono ?_); rintro e wn ⟨rfl, hX⟩) | ((with_reducible refine (HN2.out _).mono ?_); rintro e wn ⟨rfl, hX⟩) | ((with_reducible refine (HN3.out _).mono ?_); rintro e wn ⟨rfl, hX⟩)) | (go_at_call 26; (with_reducible refine (HD.out _).mono ?_); rintro e wn ⟨rfl, rfl⟩))
  rename_i hH
  have T := hH.1
  clear hH
  go_upto_region 14 with fail
  go_cut [75] (fun t75 wx => t75 = .bool false ∧ RB w wx)
  case first =>
    rcases HSEP.out with q | q | q
    · have t1 : ((s10[0].toNat : Int) != 84) = false := by rw [q]; rfl
      go_wp2
      go_meet
      exact ⟨rfl, T⟩
    · have t1 : ((s10[0].toNat : Int) != 84) = true := by rw [q]; rfl
      have t2 : ((s10[0].toNat : Int) != 116) = false := by rw [q]; rfl
      go_wp2
      go_meet
      exact ⟨rfl, T⟩
    · have t1 : ((s10[0].toNat : Int) != 84) = true := by rw [q]; rfl
      have t2 : ((s10[0].toNat : Int) != 116) = true := by rw [q]; rfl
      have t3 : ((s10[0].toNat : Int) != 32) = false := by rw [q]; rfl
      go_wp2
      go_meet
      exact ⟨rfl, T⟩
  case rest =>
    clear T HSEP
    obtain ⟨rfl, T⟩ := hcut
    have hEb : (ER != 0) = false := by rw [bne_eq_false_iff_eq]; exact hq
    clear hq
    go_wp2_with (go_at_call 25; (with_reducible refine (HT.out _).mono ?_); rintro e w3 ⟨rfl, hX⟩; have T := RT.new (T.step hX) 3 D N 0; clear hX; obtain ⟨c0, c1, c2, c3⟩ := T.R.cells; have y0 := T.R.fz 0; have y1 := T.R.fz 1; have y2 := T.R.fz 2; have y3 := T.R.fz 3; obtain ⟨a0, a1, a2, a3⟩ := T.T.cells)
    exact bodyPost_ret (v := .tuple #[.agg #[.int .i64 3, .int .i64 D, .int .i64 N, .int .i64 0], .int .i64 0]) (by simp [results, Tryd.results13, go_sem, c0, c1, c2, c3]) rfl ⟨rfl, ((((T.bel.setCell (by simp; try omega) _).setCell (by simp; try omega) _).setCell (by simp; try omega) _).setCell (by simp; try omega) _)⟩
set_option maxRecDepth 100000 in
set_option maxHeartbeats 8000000 in
theorem rparse_t4 (s : ByteArray) (w : World) (y mo d : Nat) (D ER : Int) (hs : 10 ≤ s.size) (hf : formL (sub s.data.toList 0 10) p10 = true) (a1 : nvl (sub s.data.toList 0 4) = y) (a2 : nvl (sub s.data.toList 5 7) = mo) (a3 : nvl (sub s.data.toList 8 10) = d) (HD : Hid (∀ w, Calls Tryd.prog 26 #[.int .i64 y, .int .i64 mo, .int .i64 d] w fun e w' => e = .returned (.tuple #[.int .i64 D, .int .i64 ER]) ∧ w = w')) (s10 : ByteArray) (h10 : s.extract 10 s.size = s10) (he : s10.data.toList ≠ []) (hb : ∀ hh : 0 < s10.size, (s10[0]'hh).toNat = 84 ∨ (s10[0]'hh).toNat = 116 ∨ (s10[0]'hh).toNat = 32) (s11 : ByteArray) (h11 : s10.extract 1 s10.size = s11) (N : Int) (B B2 : Bool) (O : Int) (r : ByteArray) (hr : r.data.toList ≠ []) (HT : Hid (∀ w, Calls Tryd.prog 25 #[.string s11] w fun e w' => e = .returned (.tuple #[.int .i64 N, .string r, .bool true, .bool B]) ∧ Below w.heap.size w w')) (HO : Hid (∀ w, Calls Tryd.prog 28 #[.string r] w fun e w' => e = .returned (.tuple #[.int .i64 O, .bool false, .bool B2]) ∧ Below w.heap.size w w')) : Calls Tryd.prog 13 #[.string s] w fun e w' => e = .returned (.tuple #[.agg #[.int .i64 0, .int .i64 0, .int .i64 0, .int .i64 0], .int .i64 3]) ∧ Below w.heap.size w w' := by
  have n1 := sub_num hf 0 4 (by decide) (by decide) (idx2 _ (by decide))
  have n2 := sub_num hf 5 7 (by decide) (by decide) (idx2 _ (by decide))
  have n3 := sub_num hf 8 10 (by decide) (by decide) (idx2 _ (by decide))
  have HN1 := Lib.hid (fun w => rnum_at (s.extract 0 4) y w (by rw [ex_sub, n1.1]; decide) (by rw [ex_sub]; exact n1.2.1) (by rw [ex_sub]; exact a1))
  have HN2 := Lib.hid (fun w => rnum_at (s.extract 5 7) mo w (by rw [ex_sub, n2.1]; decide) (by rw [ex_sub]; exact n2.2.1) (by rw [ex_sub]; exact a2))
  have HN3 := Lib.hid (fun w => rnum_at (s.extract 8 10) d w (by rw [ex_sub, n3.1]; decide) (by rw [ex_sub]; exact n3.2.1) (by rw [ex_sub]; exact a3))
  have h14 : (4 : Int) ≤ s.size := by omega
  have h15 : (5 : Int) ≤ s.size := by omega
  have h17 : (7 : Int) ≤ s.size := by omega
  have h18 : (8 : Int) ≤ s.size := by omega
  have h19 : (10 : Int) ≤ s.size := by omega
  obtain ⟨f1, hf1⟩ : ∃ d0, s.extract 0 4 = d0 := ⟨_, rfl⟩
  obtain ⟨f2, hf2⟩ : ∃ d0, s.extract 5 7 = d0 := ⟨_, rfl⟩
  obtain ⟨f3, hf3⟩ : ∃ d0, s.extract 8 10 = d0 := ⟨_, rfl⟩
  rw [hf1] at HN1
  rw [hf2] at HN2
  rw [hf3] at HN3
  have HM := Lib.hid (fun w => like_any s ⟨#[100, 100, 100, 100, 45, 100, 100, 45, 100, 100]⟩ w (by decide))
  rw [show likeL s.data.toList (⟨#[100, 100, 100, 100, 45, 100, 100, 45, 100, 100]⟩ : ByteArray).data.toList = true by rw [← hf]; exact like_sub _ _ _ 10 (by decide) rfl (by decide)] at HM
  have T := RB.new w
  have z0 : 0 < s10.size := by
    show 0 < s10.data.toList.length
    cases hc : s10.data.toList with
    | nil => exact absurd hc he
    | cons _ _ => simp
  have z1 : (0 : Int) < s10.size := by omega
  have z2 : (1 : Int) ≤ s10.size := by omega
  have r1 : s10.toList.isEmpty = false := by
    rw [toList_data]
    cases hc : s10.data.toList with
    | nil => exact absurd hc he
    | cons _ _ => rfl
  have r2 : ¬ s10.toList = [] := by intro e; rw [e] at r1; cases r1
  clear he
  have r1 : r.toList.isEmpty = false := by
    rw [toList_data]
    cases hc : r.data.toList with
    | nil => exact absurd hc hr
    | cons _ _ => rfl
  have r2 : ¬ r.toList = [] := by intro e; rw [e] at r1; cases r1
  clear hr
  have HSEP := Lib.hid (hb z0)
  clear hb
  clear hf a1 a2 a3 n1 n2 n3
  go_enter Tryd.func13, Tryd.ntmps13
  go_wp2_with (go_at_call 24; (with_reducible refine (HM.out _).mono ?_); rintro e w1 ⟨rfl, hX⟩; have T := T.step hX; clear hX)
  go_region_held3 (fun (W : World) => RB w W ∧ True) ((first | (exact ⟨by assumption, trivial⟩) | (go_split_ands; exact ⟨by assumption, trivial⟩) | (go_split_ands; exact ⟨RB.dr (by assumption), trivial⟩) | (go_split_ands; exact ⟨RB.step (by assumption) hX, trivial⟩))) (first | (go_at_call 27; first | ((with_reducible refine (HN1.out _).mono ?_); rintro e wn ⟨rfl, hX⟩) | ((with_reducible refine (HN2.out _).mono ?_); rintro e wn ⟨rfl, hX⟩) | ((with_reducible refine (HN3.out _).mono ?_); rintro e wn ⟨rfl, hX⟩)) | (go_at_call 26; (with_reducible refine (HD.out _).mono ?_); rintro e wn ⟨rfl, rfl⟩))
  rename_i hH
  have T := hH.1
  clear hH
  go_upto_region 14 with fail
  go_cut [75] (fun t75 wx => t75 = .bool false ∧ RB w wx)
  case first =>
    rcases HSEP.out with q | q | q
    · have t1 : ((s10[0].toNat : Int) != 84) = false := by rw [q]; rfl
      go_wp2
      go_meet
      exact ⟨rfl, T⟩
    · have t1 : ((s10[0].toNat : Int) != 84) = true := by rw [q]; rfl
      have t2 : ((s10[0].toNat : Int) != 116) = false := by rw [q]; rfl
      go_wp2
      go_meet
      exact ⟨rfl, T⟩
    · have t1 : ((s10[0].toNat : Int) != 84) = true := by rw [q]; rfl
      have t2 : ((s10[0].toNat : Int) != 116) = true := by rw [q]; rfl
      have t3 : ((s10[0].toNat : Int) != 32) = false := by rw [q]; rfl
      go_wp2
      go_meet
      exact ⟨rfl, T⟩
  case rest =>
    clear T HSEP
    obtain ⟨rfl, T⟩ := hcut
    go_wp2_with (first | (go_at_call 25; (with_reducible refine (HT.out _).mono ?_); rintro e w3 ⟨rfl, hX⟩; have T := RT.new (T.step hX) 3 D N 0; clear hX) | (go_at_call 28; (with_reducible refine (HO.out _).mono ?_); rintro e w5 ⟨rfl, hX⟩; have T := T.step hX; clear hX; have hlt := T.lt; obtain ⟨c0, c1, c2, c3⟩ := T.R.cells; have y0 := T.R.fz 0; have y1 := T.R.fz 1; have y2 := T.R.fz 2; have y3 := T.R.fz 3; obtain ⟨a0, a1, a2, a3⟩ := T.T.cells; have u0 := T.T.fz 0; have u3 := T.T.fz 3))
    exact bodyPost_ret (v := .tuple #[.agg #[.int .i64 0, .int .i64 0, .int .i64 0, .int .i64 0], .int .i64 3]) (by simp [results, Tryd.results13, go_sem, c0, c1, c2, c3]) rfl ⟨rfl, ((((T.bel.setCell (by simp; try omega) _).setCell (by simp; try omega) _).setCell (by simp; try omega) _).setCell (by simp; try omega) _)⟩
set_option maxRecDepth 100000 in
set_option maxHeartbeats 8000000 in
theorem rparse_t5 (s : ByteArray) (w : World) (y mo d : Nat) (D ER : Int) (hs : 10 ≤ s.size) (hf : formL (sub s.data.toList 0 10) p10 = true) (a1 : nvl (sub s.data.toList 0 4) = y) (a2 : nvl (sub s.data.toList 5 7) = mo) (a3 : nvl (sub s.data.toList 8 10) = d) (HD : Hid (∀ w, Calls Tryd.prog 26 #[.int .i64 y, .int .i64 mo, .int .i64 d] w fun e w' => e = .returned (.tuple #[.int .i64 D, .int .i64 ER]) ∧ w = w')) (s10 : ByteArray) (h10 : s.extract 10 s.size = s10) (he : s10.data.toList ≠ []) (hb : ∀ hh : 0 < s10.size, (s10[0]'hh).toNat = 84 ∨ (s10[0]'hh).toNat = 116 ∨ (s10[0]'hh).toNat = 32) (s11 : ByteArray) (h11 : s10.extract 1 s10.size = s11) (N : Int) (B B2 : Bool) (O : Int) (r : ByteArray) (hr : r.data.toList ≠ []) (hq : ER ≠ 0 ∨ (ER = 0 ∧ B = false) ∨ (ER = 0 ∧ B = true ∧ B2 = false)) (HT : Hid (∀ w, Calls Tryd.prog 25 #[.string s11] w fun e w' => e = .returned (.tuple #[.int .i64 N, .string r, .bool true, .bool B]) ∧ Below w.heap.size w w')) (HO : Hid (∀ w, Calls Tryd.prog 28 #[.string r] w fun e w' => e = .returned (.tuple #[.int .i64 O, .bool true, .bool B2]) ∧ Below w.heap.size w w')) : Calls Tryd.prog 13 #[.string s] w fun e w' => e = .returned (.tuple #[.agg #[.int .i64 0, .int .i64 0, .int .i64 0, .int .i64 0], .int .i64 2]) ∧ Below w.heap.size w w' := by
  have n1 := sub_num hf 0 4 (by decide) (by decide) (idx2 _ (by decide))
  have n2 := sub_num hf 5 7 (by decide) (by decide) (idx2 _ (by decide))
  have n3 := sub_num hf 8 10 (by decide) (by decide) (idx2 _ (by decide))
  have HN1 := Lib.hid (fun w => rnum_at (s.extract 0 4) y w (by rw [ex_sub, n1.1]; decide) (by rw [ex_sub]; exact n1.2.1) (by rw [ex_sub]; exact a1))
  have HN2 := Lib.hid (fun w => rnum_at (s.extract 5 7) mo w (by rw [ex_sub, n2.1]; decide) (by rw [ex_sub]; exact n2.2.1) (by rw [ex_sub]; exact a2))
  have HN3 := Lib.hid (fun w => rnum_at (s.extract 8 10) d w (by rw [ex_sub, n3.1]; decide) (by rw [ex_sub]; exact n3.2.1) (by rw [ex_sub]; exact a3))
  have h14 : (4 : Int) ≤ s.size := by omega
  have h15 : (5 : Int) ≤ s.size := by omega
  have h17 : (7 : Int) ≤ s.size := by omega
  have h18 : (8 : Int) ≤ s.size := by omega
  have h19 : (10 : Int) ≤ s.size := by omega
  obtain ⟨f1, hf1⟩ : ∃ d0, s.extract 0 4 = d0 := ⟨_, rfl⟩
  obtain ⟨f2, hf2⟩ : ∃ d0, s.extract 5 7 = d0 := ⟨_, rfl⟩
  obtain ⟨f3, hf3⟩ : ∃ d0, s.extract 8 10 = d0 := ⟨_, rfl⟩
  rw [hf1] at HN1
  rw [hf2] at HN2
  rw [hf3] at HN3
  have HM := Lib.hid (fun w => like_any s ⟨#[100, 100, 100, 100, 45, 100, 100, 45, 100, 100]⟩ w (by decide))
  rw [show likeL s.data.toList (⟨#[100, 100, 100, 100, 45, 100, 100, 45, 100, 100]⟩ : ByteArray).data.toList = true by rw [← hf]; exact like_sub _ _ _ 10 (by decide) rfl (by decide)] at HM
  have T := RB.new w
  have z0 : 0 < s10.size := by
    show 0 < s10.data.toList.length
    cases hc : s10.data.toList with
    | nil => exact absurd hc he
    | cons _ _ => simp
  have z1 : (0 : Int) < s10.size := by omega
  have z2 : (1 : Int) ≤ s10.size := by omega
  have r1 : s10.toList.isEmpty = false := by
    rw [toList_data]
    cases hc : s10.data.toList with
    | nil => exact absurd hc he
    | cons _ _ => rfl
  have r2 : ¬ s10.toList = [] := by intro e; rw [e] at r1; cases r1
  clear he
  have r1 : r.toList.isEmpty = false := by
    rw [toList_data]
    cases hc : r.data.toList with
    | nil => exact absurd hc hr
    | cons _ _ => rfl
  have r2 : ¬ r.toList = [] := by intro e; rw [e] at r1; cases r1
  clear hr
  have HSEP := Lib.hid (hb z0)
  clear hb
  clear hf a1 a2 a3 n1 n2 n3
  go_enter Tryd.func13, Tryd.ntmps13
  go_wp2_with (go_at_call 24; (with_reducible refine (HM.out _).mono ?_); rintro e w1 ⟨rfl, hX⟩; have T := T.step hX; clear hX)
  go_region_held3 (fun (W : World) => RB w W ∧ True) ((first | (exact ⟨by assumption, trivial⟩) | (go_split_ands; exact ⟨by assumption, trivial⟩) | (go_split_ands; exact ⟨RB.dr (by assumption), trivial⟩) | (go_split_ands; exact ⟨RB.step (by assumption) hX, trivial⟩))) (first | (go_at_call 27; first | ((with_reducible refine (HN1.out _).mono ?_); rintro e wn ⟨rfl, hX⟩) | ((with_reducible refine (HN2.out _).mono ?_); rintro e wn ⟨rfl, hX⟩) | ((with_reducible refine (HN3.out _).mono ?_); rintro e wn ⟨rfl, hX⟩)) | (go_at_call 26; (with_reducible refine (HD.out _).mono ?_); rintro e wn ⟨rfl, rfl⟩))
  rename_i hH
  have T := hH.1
  clear hH
  go_upto_region 14 with fail
  go_cut [75] (fun t75 wx => t75 = .bool false ∧ RB w wx)
  case first =>
    rcases HSEP.out with q | q | q
    · have t1 : ((s10[0].toNat : Int) != 84) = false := by rw [q]; rfl
      go_wp2
      go_meet
      exact ⟨rfl, T⟩
    · have t1 : ((s10[0].toNat : Int) != 84) = true := by rw [q]; rfl
      have t2 : ((s10[0].toNat : Int) != 116) = false := by rw [q]; rfl
      go_wp2
      go_meet
      exact ⟨rfl, T⟩
    · have t1 : ((s10[0].toNat : Int) != 84) = true := by rw [q]; rfl
      have t2 : ((s10[0].toNat : Int) != 116) = true := by rw [q]; rfl
      have t3 : ((s10[0].toNat : Int) != 32) = false := by rw [q]; rfl
      go_wp2
      go_meet
      exact ⟨rfl, T⟩
  case rest =>
    clear T HSEP
    obtain ⟨rfl, T⟩ := hcut
    rcases hq with hq | ⟨hq, rfl⟩ | ⟨hq, rfl, rfl⟩
    · have hEb : (ER != 0) = true := by rw [bne_iff_ne]; exact hq
      clear hq
      cases B
      · go_wp2_with (first | (go_at_call 25; (with_reducible refine (HT.out _).mono ?_); rintro e w3 ⟨rfl, hX⟩; have T := RT.new (T.step hX) 3 D N 0; clear hX) | (go_at_call 28; (with_reducible refine (HO.out _).mono ?_); rintro e w5 ⟨rfl, hX⟩; have T := T.step hX; clear hX; have hlt := T.lt; obtain ⟨c0, c1, c2, c3⟩ := T.R.cells; have y0 := T.R.fz 0; have y1 := T.R.fz 1; have y2 := T.R.fz 2; have y3 := T.R.fz 3; obtain ⟨a0, a1, a2, a3⟩ := T.T.cells; have u0 := T.T.fz 0; have u3 := T.T.fz 3))
        exact bodyPost_ret (v := .tuple #[.agg #[.int .i64 0, .int .i64 0, .int .i64 0, .int .i64 0], .int .i64 2]) (by simp [results, Tryd.results13, go_sem, c0, c1, c2, c3]) rfl ⟨rfl, ((((((T.bel.setCell (by simp; try omega) _).setCell (by simp; try omega) _).setCell (by simp; try omega) _).setCell (by simp; try omega) _).setCell (by simp; try omega) _).setCell (by simp; try omega) _)⟩
      · go_wp2_with (first | (go_at_call 25; (with_reducible refine (HT.out _).mono ?_); rintro e w3 ⟨rfl, hX⟩; have T := RT.new (T.step hX) 3 D N 0; clear hX) | (go_at_call 28; (with_reducible refine (HO.out _).mono ?_); rintro e w5 ⟨rfl, hX⟩; have T := T.step hX; clear hX; have hlt := T.lt; obtain ⟨c0, c1, c2, c3⟩ := T.R.cells; have y0 := T.R.fz 0; have y1 := T.R.fz 1; have y2 := T.R.fz 2; have y3 := T.R.fz 3; obtain ⟨a0, a1, a2, a3⟩ := T.T.cells; have u0 := T.T.fz 0; have u3 := T.T.fz 3))
        exact bodyPost_ret (v := .tuple #[.agg #[.int .i64 0, .int .i64 0, .int .i64 0, .int .i64 0], .int .i64 2]) (by simp [results, Tryd.results13, go_sem, c0, c1, c2, c3]) rfl ⟨rfl, ((((((T.bel.setCell (by simp; try omega) _).setCell (by simp; try omega) _).setCell (by simp; try omega) _).setCell (by simp; try omega) _).setCell (by simp; try omega) _).setCell (by simp; try omega) _)⟩
    · have hEb : (ER != 0) = false := by rw [bne_eq_false_iff_eq]; exact hq
      clear hq
      go_wp2_with (first | (go_at_call 25; (with_reducible refine (HT.out _).mono ?_); rintro e w3 ⟨rfl, hX⟩; have T := RT.new (T.step hX) 3 D N 0; clear hX) | (go_at_call 28; (with_reducible refine (HO.out _).mono ?_); rintro e w5 ⟨rfl, hX⟩; have T := T.step hX; clear hX; have hlt := T.lt; obtain ⟨c0, c1, c2, c3⟩ := T.R.cells; have y0 := T.R.fz 0; have y1 := T.R.fz 1; have y2 := T.R.fz 2; have y3 := T.R.fz 3; obtain ⟨a0, a1, a2, a3⟩ := T.T.cells; have u0 := T.T.fz 0; have u3 := T.T.fz 3))
      exact bodyPost_ret (v := .tuple #[.agg #[.int .i64 0, .int .i64 0, .int .i64 0, .int .i64 0], .int .i64 2]) (by simp [results, Tryd.results13, go_sem, c0, c1, c2, c3]) rfl ⟨rfl, ((((((T.bel.setCell (by simp; try omega) _).setCell (by simp; try omega) _).setCell (by simp; try omega) _).setCell (by simp; try omega) _).setCell (by simp; try omega) _).setCell (by simp; try omega) _)⟩
    · have hEb : (ER != 0) = false := by rw [bne_eq_false_iff_eq]; exact hq
      clear hq
      go_wp2_with (first | (go_at_call 25; (with_reducible refine (HT.out _).mono ?_); rintro e w3 ⟨rfl, hX⟩; have T := RT.new (T.step hX) 3 D N 0; clear hX) | (go_at_call 28; (with_reducible refine (HO.out _).mono ?_); rintro e w5 ⟨rfl, hX⟩; have T := T.step hX; clear hX; have hlt := T.lt; obtain ⟨c0, c1, c2, c3⟩ := T.R.cells; have y0 := T.R.fz 0; have y1 := T.R.fz 1; have y2 := T.R.fz 2; have y3 := T.R.fz 3; obtain ⟨a0, a1, a2, a3⟩ := T.T.cells; have u0 := T.T.fz 0; have u3 := T.T.fz 3))
      exact bodyPost_ret (v := .tuple #[.agg #[.int .i64 0, .int .i64 0, .int .i64 0, .int .i64 0], .int .i64 2]) (by simp [results, Tryd.results13, go_sem, c0, c1, c2, c3]) rfl ⟨rfl, ((((((T.bel.setCell (by simp; try omega) _).setCell (by simp; try omega) _).setCell (by simp; try omega) _).setCell (by simp; try omega) _).setCell (by simp; try omega) _).setCell (by simp; try omega) _)⟩
set_option maxRecDepth 100000 in
set_option maxHeartbeats 8000000 in
theorem rparse_t6 (s : ByteArray) (w : World) (y mo d : Nat) (D ER : Int) (hs : 10 ≤ s.size) (hf : formL (sub s.data.toList 0 10) p10 = true) (a1 : nvl (sub s.data.toList 0 4) = y) (a2 : nvl (sub s.data.toList 5 7) = mo) (a3 : nvl (sub s.data.toList 8 10) = d) (HD : Hid (∀ w, Calls Tryd.prog 26 #[.int .i64 y, .int .i64 mo, .int .i64 d] w fun e w' => e = .returned (.tuple #[.int .i64 D, .int .i64 ER]) ∧ w = w')) (s10 : ByteArray) (h10 : s.extract 10 s.size = s10) (he : s10.data.toList ≠ []) (hb : ∀ hh : 0 < s10.size, (s10[0]'hh).toNat = 84 ∨ (s10[0]'hh).toNat = 116 ∨ (s10[0]'hh).toNat = 32) (s11 : ByteArray) (h11 : s10.extract 1 s10.size = s11) (N : Int) (O : Int) (r : ByteArray) (hr : r.data.toList ≠ []) (hq : ER = 0) (HT : Hid (∀ w, Calls Tryd.prog 25 #[.string s11] w fun e w' => e = .returned (.tuple #[.int .i64 N, .string r, .bool true, .bool true]) ∧ Below w.heap.size w w')) (HO : Hid (∀ w, Calls Tryd.prog 28 #[.string r] w fun e w' => e = .returned (.tuple #[.int .i64 O, .bool true, .bool true]) ∧ Below w.heap.size w w')) : Calls Tryd.prog 13 #[.string s] w fun e w' => e = .returned (.tuple #[.agg #[.int .i64 4, .int .i64 D, .int .i64 N, .int .i64 O], .int .i64 0]) ∧ Below w.heap.size w w' := by
  have n1 := sub_num hf 0 4 (by decide) (by decide) (idx2 _ (by decide))
  have n2 := sub_num hf 5 7 (by decide) (by decide) (idx2 _ (by decide))
  have n3 := sub_num hf 8 10 (by decide) (by decide) (idx2 _ (by decide))
  have HN1 := Lib.hid (fun w => rnum_at (s.extract 0 4) y w (by rw [ex_sub, n1.1]; decide) (by rw [ex_sub]; exact n1.2.1) (by rw [ex_sub]; exact a1))
  have HN2 := Lib.hid (fun w => rnum_at (s.extract 5 7) mo w (by rw [ex_sub, n2.1]; decide) (by rw [ex_sub]; exact n2.2.1) (by rw [ex_sub]; exact a2))
  have HN3 := Lib.hid (fun w => rnum_at (s.extract 8 10) d w (by rw [ex_sub, n3.1]; decide) (by rw [ex_sub]; exact n3.2.1) (by rw [ex_sub]; exact a3))
  have h14 : (4 : Int) ≤ s.size := by omega
  have h15 : (5 : Int) ≤ s.size := by omega
  have h17 : (7 : Int) ≤ s.size := by omega
  have h18 : (8 : Int) ≤ s.size := by omega
  have h19 : (10 : Int) ≤ s.size := by omega
  obtain ⟨f1, hf1⟩ : ∃ d0, s.extract 0 4 = d0 := ⟨_, rfl⟩
  obtain ⟨f2, hf2⟩ : ∃ d0, s.extract 5 7 = d0 := ⟨_, rfl⟩
  obtain ⟨f3, hf3⟩ : ∃ d0, s.extract 8 10 = d0 := ⟨_, rfl⟩
  rw [hf1] at HN1
  rw [hf2] at HN2
  rw [hf3] at HN3
  have HM := Lib.hid (fun w => like_any s ⟨#[100, 100, 100, 100, 45, 100, 100, 45, 100, 100]⟩ w (by decide))
  rw [show likeL s.data.toList (⟨#[100, 100, 100, 100, 45, 100, 100, 45, 100, 100]⟩ : ByteArray).data.toList = true by rw [← hf]; exact like_sub _ _ _ 10 (by decide) rfl (by decide)] at HM
  have T := RB.new w
  have z0 : 0 < s10.size := by
    show 0 < s10.data.toList.length
    cases hc : s10.data.toList with
    | nil => exact absurd hc he
    | cons _ _ => simp
  have z1 : (0 : Int) < s10.size := by omega
  have z2 : (1 : Int) ≤ s10.size := by omega
  have r1 : s10.toList.isEmpty = false := by
    rw [toList_data]
    cases hc : s10.data.toList with
    | nil => exact absurd hc he
    | cons _ _ => rfl
  have r2 : ¬ s10.toList = [] := by intro e; rw [e] at r1; cases r1
  clear he
  have r1 : r.toList.isEmpty = false := by
    rw [toList_data]
    cases hc : r.data.toList with
    | nil => exact absurd hc hr
    | cons _ _ => rfl
  have r2 : ¬ r.toList = [] := by intro e; rw [e] at r1; cases r1
  clear hr
  have HSEP := Lib.hid (hb z0)
  clear hb
  clear hf a1 a2 a3 n1 n2 n3
  go_enter Tryd.func13, Tryd.ntmps13
  go_wp2_with (go_at_call 24; (with_reducible refine (HM.out _).mono ?_); rintro e w1 ⟨rfl, hX⟩; have T := T.step hX; clear hX)
  go_region_held3 (fun (W : World) => RB w W ∧ True) ((first | (exact ⟨by assumption, trivial⟩) | (go_split_ands; exact ⟨by assumption, trivial⟩) | (go_split_ands; exact ⟨RB.dr (by assumption), trivial⟩) | (go_split_ands; exact ⟨RB.step (by assumption) hX, trivial⟩))) (first | (go_at_call 27; first | ((with_reducible refine (HN1.out _).mono ?_); rintro e wn ⟨rfl, hX⟩) | ((with_reducible refine (HN2.out _).mono ?_); rintro e wn ⟨rfl, hX⟩) | ((with_reducible refine (HN3.out _).mono ?_); rintro e wn ⟨rfl, hX⟩)) | (go_at_call 26; (with_reducible refine (HD.out _).mono ?_); rintro e wn ⟨rfl, rfl⟩))
  rename_i hH
  have T := hH.1
  clear hH
  go_upto_region 14 with fail
  go_cut [75] (fun t75 wx => t75 = .bool false ∧ RB w wx)
  case first =>
    rcases HSEP.out with q | q | q
    · have t1 : ((s10[0].toNat : Int) != 84) = false := by rw [q]; rfl
      go_wp2
      go_meet
      exact ⟨rfl, T⟩
    · have t1 : ((s10[0].toNat : Int) != 84) = true := by rw [q]; rfl
      have t2 : ((s10[0].toNat : Int) != 116) = false := by rw [q]; rfl
      go_wp2
      go_meet
      exact ⟨rfl, T⟩
    · have t1 : ((s10[0].toNat : Int) != 84) = true := by rw [q]; rfl
      have t2 : ((s10[0].toNat : Int) != 116) = true := by rw [q]; rfl
      have t3 : ((s10[0].toNat : Int) != 32) = false := by rw [q]; rfl
      go_wp2
      go_meet
      exact ⟨rfl, T⟩
  case rest =>
    clear T HSEP
    obtain ⟨rfl, T⟩ := hcut
    have hEb : (ER != 0) = false := by rw [bne_eq_false_iff_eq]; exact hq
    clear hq
    go_wp2_with (first | (go_at_call 25; (with_reducible refine (HT.out _).mono ?_); rintro e w3 ⟨rfl, hX⟩; have T := RT.new (T.step hX) 3 D N 0; clear hX) | (go_at_call 28; (with_reducible refine (HO.out _).mono ?_); rintro e w5 ⟨rfl, hX⟩; have T := T.step hX; clear hX; have hlt := T.lt; obtain ⟨c0, c1, c2, c3⟩ := T.R.cells; have y0 := T.R.fz 0; have y1 := T.R.fz 1; have y2 := T.R.fz 2; have y3 := T.R.fz 3; obtain ⟨a0, a1, a2, a3⟩ := T.T.cells; have u0 := T.T.fz 0; have u3 := T.T.fz 3))
    exact bodyPost_ret (v := .tuple #[.agg #[.int .i64 4, .int .i64 D, .int .i64 N, .int .i64 O], .int .i64 0]) (by simp [results, Tryd.results13, go_sem, c0, c1, c2, c3]) rfl ⟨rfl, ((((((T.bel.setCell (by simp; try omega) _).setCell (by simp; try omega) _).setCell (by simp; try omega) _).setCell (by simp; try omega) _).setCell (by simp; try omega) _).setCell (by simp; try omega) _)⟩
end Go.Proofs.YtkbddelacjjapaaDoor.Mom
