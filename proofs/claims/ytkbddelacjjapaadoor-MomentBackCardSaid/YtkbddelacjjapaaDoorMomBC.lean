/-
  Package moment: the time of day of any text.
-/
import Derived.Test.YtkbddelacjjapaaDoorMomBB
namespace Go.Proofs.YtkbddelacjjapaaDoor.Mom
open Go.RowKit
set_option linter.unusedVariables false
set_option linter.unusedSimpArgs false

theorem ex_size (s : ByteArray) (a b : Nat) (h : b ≤ s.size) : (s.extract a b).size = b - a := by rw [ByteArray.size_extract]; omega
theorem rep_list (c : Nat) : Lib.repeatL [48] c = List.replicate c 48 := by
  induction c with
  | zero => rfl
  | succ c ih => rw [List.replicate_succ]; show 48 :: Lib.repeatL [48] c = _; rw [ih]
theorem pre_dot (l : List UInt8) : Lib.hasPrefix l [46] = decide (l.head? = some 46) := by
  cases l with
  | nil => rfl
  | cons a t =>
    rw [Bool.eq_iff_iff]
    simp [Lib.hasPrefix, List.isPrefixOf]
    exact ⟨fun h => h.symm, fun h => h.symm⟩
theorem trim_len (l : List UInt8) : (Lib.trimLeftS l [48, 49, 50, 51, 52, 53, 54, 55, 56, 57]) = l.drop (dcl l) := by
  rw [drop_dcl]
  unfold Lib.trimLeftS
  congr 1
  funext c
  rw [Bool.eq_iff_iff, isDg_iff]
  unfold dg
  rw [List.contains_iff_mem]
  simp only [List.mem_cons, List.not_mem_nil, or_false, ← UInt8.toNat_inj]
  have : (48 : UInt8).toNat = 48 ∧ (49 : UInt8).toNat = 49 ∧ (50 : UInt8).toNat = 50 ∧ (51 : UInt8).toNat = 51 ∧ (52 : UInt8).toNat = 52 ∧ (53 : UInt8).toNat = 53 ∧ (54 : UInt8).toNat = 54 ∧ (55 : UInt8).toNat = 55 ∧ (56 : UInt8).toNat = 56 ∧ (57 : UInt8).toNat = 57 := by decide
  omega
theorem ex_end (s : ByteArray) (a : Nat) : (s.extract a s.size).data.toList = s.data.toList.drop a := by
  rw [ex_sub]
  unfold sub
  exact List.take_of_length_le (by rw [List.length_drop]; exact Nat.le_refl _)
theorem ex_tail (s : ByteArray) (a : Nat) : s.extract a s.size = ⟨(s.data.toList.drop a).toArray⟩ := by
  apply ByteArray.ext
  apply Array.ext'
  rw [ex_end]
theorem ex_frac {s s1 s2 : ByteArray} (h1 : s.extract 8 s.size = s1) (h2 : s1.extract 1 s1.size = s2) : s2.data.toList = s.data.toList.drop 9 := by
  rw [← h2, ex_end, ← h1, ex_end, List.drop_drop]
theorem trim_size {s2 t : ByteArray} {n : Nat} (ht : (⟨(Lib.trimLeftS s2.data.toList [48, 49, 50, 51, 52, 53, 54, 55, 56, 57]).toArray⟩ : ByteArray) = t) (hn : dcl s2.data.toList = n) : t.size + n = s2.size ∧ n ≤ s2.size := by
  have h3 := dcl_le s2.data.toList
  have h4 : t.size = (s2.data.toList.drop (dcl s2.data.toList)).length := by rw [← ht, trim_len]; rfl
  rw [List.length_drop, hn] at h4
  rw [hn] at h3
  have h5 : s2.size = s2.data.toList.length := rfl
  omega
set_option maxRecDepth 100000 in
set_option maxHeartbeats 4000000 in
theorem fclock_a (A : Nat) (s : ByteArray) (w : World) (k y mo d zh zm : Int) (hF : FC w A k y mo d 0 0 0 0 false zh zm) (hs : s.size < 8) : Calls Tryd.prog 35 #[.pointer (some ⟨A, 0, none⟩), .string s] w fun e w' => e = .returned (.tuple #[.string ⟨#[]⟩, .bool false]) ∧ Below A w w' := by
  have hA := hF.lt
  have h1 : (s.size : Int) < 8 := by omega
  clear hF hs
  go_enter Tryd.func35, Tryd.ntmps35
  go_wp2
  go_ret2
  exact ⟨rfl, Below.refl _ _⟩
set_option maxRecDepth 100000 in
set_option maxHeartbeats 4000000 in
theorem fclock_b (A : Nat) (s : ByteArray) (w : World) (k y mo d zh zm : Int) (hF : FC w A k y mo d 0 0 0 0 false zh zm) (hs : 8 ≤ s.size) (hf : formL (s.extract 0 8).data.toList p8 = false) : Calls Tryd.prog 35 #[.pointer (some ⟨A, 0, none⟩), .string s] w fun e w' => e = .returned (.tuple #[.string ⟨#[]⟩, .bool false]) ∧ Below A w w' := by
  have hA := hF.lt
  have HF := Lib.hid hF
  have h1 : ¬ (s.size : Int) < 8 := by omega
  have h2 : (8 : Int) ≤ s.size := by omega
  obtain ⟨e0, he0⟩ : ∃ e0, s.extract 0 8 = e0 := ⟨_, rfl⟩
  rw [he0] at hf
  have HM := Lib.hid (fun w => matches_any e0 ⟨#[48, 48, 58, 48, 48, 58, 48, 48]⟩ w (by rw [← he0, ex_size _ _ _ hs]; decide))
  rw [show formL e0.data.toList (⟨#[48, 48, 58, 48, 48, 58, 48, 48]⟩ : ByteArray).data.toList = false from hf] at HM
  clear hF hf
  go_enter Tryd.func35, Tryd.ntmps35
  go_wp2_with (go_at_call 33; (with_reducible refine (HM.out _).mono ?_); rintro e w1 ⟨rfl, hX⟩; have HF1 := Lib.hid (HF.out.below hX hA); have HB1 := Lib.hid (hX.mono (Nat.le_of_lt hA)); clear hX)
  go_ret2
  exact ⟨rfl, HB1.out⟩
set_option maxRecDepth 100000 in
set_option maxHeartbeats 4000000 in
theorem fclock_c (A : Nat) (s : ByteArray) (w : World) (k y mo d zh zm : Int) (hF : FC w A k y mo d 0 0 0 0 false zh zm) (h mi se : Int) (hs : 8 ≤ s.size) (hf : formL (s.extract 0 8).data.toList p8 = true) (a1 : Lib.atoi (s.extract 0 2).data.toList = some h) (a2 : Lib.atoi (s.extract 3 5).data.toList = some mi) (a3 : Lib.atoi (s.extract 6 8).data.toList = some se) (hp : Lib.hasPrefix (s.extract 8 s.size).data.toList [46] = false) : Calls Tryd.prog 35 #[.pointer (some ⟨A, 0, none⟩), .string s] w fun e w' => e = .returned (.tuple #[.string (s.extract 8 s.size), .bool true]) ∧ FC w' A k y mo d h mi se 0 false zh zm ∧ Below A w w' := by
  have hA := hF.lt
  have HF := Lib.hid hF
  have h1 : ¬ (s.size : Int) < 8 := by omega
  have h2 : (8 : Int) ≤ s.size := by omega
  have h22 : (2 : Int) ≤ s.size := by omega
  have h25 : (5 : Int) ≤ s.size := by omega
  have hz1 : (s.extract 0 2).size = 2 := ex_size _ _ _ (by omega)
  have hz2 : (s.extract 3 5).size = 2 := ex_size _ _ _ (by omega)
  have hz3 : (s.extract 6 8).size = 2 := ex_size _ _ _ (by omega)
  have hz8 : (s.extract 0 8).size = 8 := ex_size _ _ _ (by omega)
  obtain ⟨e0, he0⟩ : ∃ e0, s.extract 0 8 = e0 := ⟨_, rfl⟩
  obtain ⟨e1, he1⟩ : ∃ e0, s.extract 0 2 = e0 := ⟨_, rfl⟩
  obtain ⟨e2, he2⟩ : ∃ e0, s.extract 3 5 = e0 := ⟨_, rfl⟩
  obtain ⟨e3, he3⟩ : ∃ e0, s.extract 6 8 = e0 := ⟨_, rfl⟩
  obtain ⟨s1, hs1⟩ : ∃ e0, s.extract 8 s.size = e0 := ⟨_, rfl⟩
  rw [he0] at hf hz8
  rw [he1] at a1 hz1
  rw [he2] at a2 hz2
  rw [he3] at a3 hz3
  rw [hs1] at hp
  have HM := Lib.hid (fun w => matches_any e0 ⟨#[48, 48, 58, 48, 48, 58, 48, 48]⟩ w (by omega))
  rw [show formL e0.data.toList (⟨#[48, 48, 58, 48, 48, 58, 48, 48]⟩ : ByteArray).data.toList = true from hf] at HM
  have HN1 := Lib.hid (fun w => number_any e1 h w (by omega) a1)
  have HN2 := Lib.hid (fun w => number_any e2 mi w (by omega) a2)
  have HN3 := Lib.hid (fun w => number_any e3 se w (by omega) a3)
  have HP : Hid (∀ w, Calls Tryd.prog 48 #[.string s1, .string ⟨#[46]⟩] w fun e w' => e = .returned (.bool false) ∧ w' = w) := Lib.hid (fun w => by
    have := Tryd.strings_HasPrefix s1 ⟨#[46]⟩ w
    rwa [show Lib.hasPrefix s1.data.toList (⟨#[46]⟩ : ByteArray).data.toList = false from hp] at this)
  rw [hs1]
  clear a1 a2 a3 hf hF hp hz1 hz2 hz3 hz8
  go_enter Tryd.func35, Tryd.ntmps35
  go_wp2_with (go_at_call 33; (with_reducible refine (HM.out _).mono ?_); rintro e w1 ⟨rfl, hX⟩; have HF1 := Lib.hid (HF.out.below hX hA); have HB1 := Lib.hid (hX.mono (Nat.le_of_lt hA)); clear hX)
  have T : C1 w w1 A k y mo d 0 false zh zm := ⟨⟨_, _, _, HF1.out⟩, HB1.out⟩
  go_region_held3 (fun (W : World) => C1 w W A k y mo d 0 false zh zm ∧ True) ((first | (exact ⟨by assumption, trivial⟩) | (go_split_ands; exact ⟨C1.dr (by assumption), trivial⟩) | (go_split_ands; exact ⟨C1.step hX (by assumption), trivial⟩) | (go_split_ands; exact ⟨C1.p4 (by assumption) _, trivial⟩) | (go_split_ands; exact ⟨C1.p5 (by assumption) _, trivial⟩) | (go_split_ands; exact ⟨C1.p6 (by assumption) _, trivial⟩))) (first | (go_at_call 34; first | ((with_reducible refine (HN1.out _).mono ?_); rintro e wn ⟨rfl, hX⟩) | ((with_reducible refine (HN2.out _).mono ?_); rintro e wn ⟨rfl, hX⟩) | ((with_reducible refine (HN3.out _).mono ?_); rintro e wn ⟨rfl, hX⟩)) | (go_split_ands; obtain ⟨q1, q2, q3, hD⟩ := C1.c (by assumption); have g4 := hD.at_ 4 (by omega); have g5 := hD.at_ 5 (by omega); have g6 := hD.at_ 6 (by omega); have f4 := hD.fz 4; have f5 := hD.fz 5; have f6 := hD.fz 6; go_simp))
  rename_i hH
  obtain ⟨T9, B9⟩ := C1.fin (W := wn) (by assumption) h mi se
  have HF9 := Lib.hid T9
  have HB9 := Lib.hid B9
  clear hH T T9 B9
  generalize (((wn.setCell ⟨A, 4, none⟩ (.int .i64 h)).setCell ⟨A, 5, none⟩ (.int .i64 mi)).setCell ⟨A, 6, none⟩ (.int .i64 se)) = W9 at *
  go_wp2_with (go_at_call 48; (with_reducible refine (HP.out _).mono ?_); rintro e w2 ⟨rfl, rfl⟩)
  go_ret2
  exact ⟨rfl, HF9.out, HB9.out⟩
set_option maxRecDepth 100000 in
set_option maxHeartbeats 4000000 in
theorem fclock_d (A : Nat) (s : ByteArray) (w : World) (k y mo d zh zm : Int) (hF : FC w A k y mo d 0 0 0 0 false zh zm) (h mi se : Int) (hs : 8 ≤ s.size) (hf : formL (s.extract 0 8).data.toList p8 = true) (a1 : Lib.atoi (s.extract 0 2).data.toList = some h) (a2 : Lib.atoi (s.extract 3 5).data.toList = some mi) (a3 : Lib.atoi (s.extract 6 8).data.toList = some se) (hsx : s.size ≤ 9223372036854775807) (hp : Lib.hasPrefix (s.extract 8 s.size).data.toList [46] = true) (n : Nat) (hn : dcl (s.data.toList.drop 9) = n) (hbad : n < 1 ∨ 9 < n) : Calls Tryd.prog 35 #[.pointer (some ⟨A, 0, none⟩), .string s] w fun e w' => e = .returned (.tuple #[.string ⟨#[]⟩, .bool false]) ∧ Below A w w' := by
  have hsz : (s.extract 8 s.size).size ≤ 9223372036854775807 := by rw [ByteArray.size_extract]; omega
  have hA := hF.lt
  have HF := Lib.hid hF
  have h1 : ¬ (s.size : Int) < 8 := by omega
  have h2 : (8 : Int) ≤ s.size := by omega
  have h22 : (2 : Int) ≤ s.size := by omega
  have h25 : (5 : Int) ≤ s.size := by omega
  have hz1 : (s.extract 0 2).size = 2 := ex_size _ _ _ (by omega)
  have hz2 : (s.extract 3 5).size = 2 := ex_size _ _ _ (by omega)
  have hz3 : (s.extract 6 8).size = 2 := ex_size _ _ _ (by omega)
  have hz8 : (s.extract 0 8).size = 8 := ex_size _ _ _ (by omega)
  obtain ⟨e0, he0⟩ : ∃ e0, s.extract 0 8 = e0 := ⟨_, rfl⟩
  obtain ⟨e1, he1⟩ : ∃ e0, s.extract 0 2 = e0 := ⟨_, rfl⟩
  obtain ⟨e2, he2⟩ : ∃ e0, s.extract 3 5 = e0 := ⟨_, rfl⟩
  obtain ⟨e3, he3⟩ : ∃ e0, s.extract 6 8 = e0 := ⟨_, rfl⟩
  obtain ⟨s1, hs1⟩ : ∃ e0, s.extract 8 s.size = e0 := ⟨_, rfl⟩
  rw [he0] at hf hz8
  rw [he1] at a1 hz1
  rw [he2] at a2 hz2
  rw [he3] at a3 hz3
  rw [hs1] at hp
  have HM := Lib.hid (fun w => matches_any e0 ⟨#[48, 48, 58, 48, 48, 58, 48, 48]⟩ w (by omega))
  rw [show formL e0.data.toList (⟨#[48, 48, 58, 48, 48, 58, 48, 48]⟩ : ByteArray).data.toList = true from hf] at HM
  have HN1 := Lib.hid (fun w => number_any e1 h w (by omega) a1)
  have HN2 := Lib.hid (fun w => number_any e2 mi w (by omega) a2)
  have HN3 := Lib.hid (fun w => number_any e3 se w (by omega) a3)
  have HP : Hid (∀ w, Calls Tryd.prog 48 #[.string s1, .string ⟨#[46]⟩] w fun e w' => e = .returned (.bool true) ∧ w' = w) := Lib.hid (fun w => by
    have := Tryd.strings_HasPrefix s1 ⟨#[46]⟩ w
    rwa [show Lib.hasPrefix s1.data.toList (⟨#[46]⟩ : ByteArray).data.toList = true from hp] at this)
  rw [hs1] at hsz
  have hszz : (s1.extract 1 s1.size).size ≤ 9223372036854775807 := by rw [ByteArray.size_extract]; omega
  have hsm : 1 ≤ s1.size := by
    cases hc : s1.data.toList with
    | nil => rw [hc] at hp; cases hp
    | cons a t => show 1 ≤ s1.data.toList.length; rw [hc]; simp
  have hsm2 : (1 : Int) ≤ s1.size := by omega
  obtain ⟨s2, hs2⟩ : ∃ e0, s1.extract 1 s1.size = e0 := ⟨_, rfl⟩
  have hE2 : s2.data.toList = s.data.toList.drop 9 := ex_frac hs1 hs2
  obtain ⟨t, ht⟩ : ∃ t : ByteArray, (⟨(Lib.trimLeftS s2.data.toList [48, 49, 50, 51, 52, 53, 54, 55, 56, 57]).toArray⟩ : ByteArray) = t := ⟨_, rfl⟩
  have hzt := trim_size (n := n) ht (by rw [hE2]; exact hn)
  obtain ⟨hzt, hzn⟩ := hzt
  rw [hs2] at hszz
  have hwn : IntKind.i64.wrap ((s2.size : Int) - (t.size : Int)) = (n : Int) := by rw [show (s2.size : Int) - (t.size : Int) = (n : Int) by omega]; exact IntWalk.i64_in _ (by omega)
  have HTL := Lib.hid (fun w => trim_digits s2 w)
  rw [ht] at HTL
  clear a1 a2 a3 hf hF hp hz1 hz2 hz3 hz8 ht hE2 hn hzt hzn hszz
  rcases hbad with hb | hb
  · have hb1 : (n : Int) < 1 := by omega
    clear hb
    go_enter Tryd.func35, Tryd.ntmps35
    go_wp2_with (go_at_call 33; (with_reducible refine (HM.out _).mono ?_); rintro e w1 ⟨rfl, hX⟩; have HF1 := Lib.hid (HF.out.below hX hA); have HB1 := Lib.hid (hX.mono (Nat.le_of_lt hA)); clear hX)
    have T : C1 w w1 A k y mo d 0 false zh zm := ⟨⟨_, _, _, HF1.out⟩, HB1.out⟩
    go_region_held3 (fun (W : World) => C1 w W A k y mo d 0 false zh zm ∧ True) ((first | (exact ⟨by assumption, trivial⟩) | (go_split_ands; exact ⟨C1.dr (by assumption), trivial⟩) | (go_split_ands; exact ⟨C1.step hX (by assumption), trivial⟩) | (go_split_ands; exact ⟨C1.p4 (by assumption) _, trivial⟩) | (go_split_ands; exact ⟨C1.p5 (by assumption) _, trivial⟩) | (go_split_ands; exact ⟨C1.p6 (by assumption) _, trivial⟩))) (first | (go_at_call 34; first | ((with_reducible refine (HN1.out _).mono ?_); rintro e wn ⟨rfl, hX⟩) | ((with_reducible refine (HN2.out _).mono ?_); rintro e wn ⟨rfl, hX⟩) | ((with_reducible refine (HN3.out _).mono ?_); rintro e wn ⟨rfl, hX⟩)) | (go_split_ands; obtain ⟨q1, q2, q3, hD⟩ := C1.c (by assumption); have g4 := hD.at_ 4 (by omega); have g5 := hD.at_ 5 (by omega); have g6 := hD.at_ 6 (by omega); have f4 := hD.fz 4; have f5 := hD.fz 5; have f6 := hD.fz 6; go_simp))
    rename_i hH
    obtain ⟨T9, B9⟩ := C1.fin (W := wn) (by assumption) h mi se
    have HF9 := Lib.hid T9
    have HB9 := Lib.hid B9
    clear hH T T9 B9
    generalize (((wn.setCell ⟨A, 4, none⟩ (.int .i64 h)).setCell ⟨A, 5, none⟩ (.int .i64 mi)).setCell ⟨A, 6, none⟩ (.int .i64 se)) = W9 at *
    go_wp2_with (first | (go_at_call 48; (with_reducible refine (HP.out _).mono ?_); rintro e w2 ⟨rfl, rfl⟩) | (go_at_call 49; (with_reducible refine (HTL.out _).mono ?_); rintro e w2 ⟨rfl, hX⟩; have HF10 := Lib.hid (HF9.out.below hX HF9.out.lt); have HB10 := Lib.hid (HB9.out.trans (hX.mono (Nat.le_of_lt HF9.out.lt))); clear hX))
    go_ret2
    exact ⟨rfl, HB10.out⟩
  · have hb1 : ¬ (n : Int) < 1 := by omega
    have hb2 : (9 : Int) < n := by omega
    clear hb
    go_enter Tryd.func35, Tryd.ntmps35
    go_wp2_with (go_at_call 33; (with_reducible refine (HM.out _).mono ?_); rintro e w1 ⟨rfl, hX⟩; have HF1 := Lib.hid (HF.out.below hX hA); have HB1 := Lib.hid (hX.mono (Nat.le_of_lt hA)); clear hX)
    have T : C1 w w1 A k y mo d 0 false zh zm := ⟨⟨_, _, _, HF1.out⟩, HB1.out⟩
    go_region_held3 (fun (W : World) => C1 w W A k y mo d 0 false zh zm ∧ True) ((first | (exact ⟨by assumption, trivial⟩) | (go_split_ands; exact ⟨C1.dr (by assumption), trivial⟩) | (go_split_ands; exact ⟨C1.step hX (by assumption), trivial⟩) | (go_split_ands; exact ⟨C1.p4 (by assumption) _, trivial⟩) | (go_split_ands; exact ⟨C1.p5 (by assumption) _, trivial⟩) | (go_split_ands; exact ⟨C1.p6 (by assumption) _, trivial⟩))) (first | (go_at_call 34; first | ((with_reducible refine (HN1.out _).mono ?_); rintro e wn ⟨rfl, hX⟩) | ((with_reducible refine (HN2.out _).mono ?_); rintro e wn ⟨rfl, hX⟩) | ((with_reducible refine (HN3.out _).mono ?_); rintro e wn ⟨rfl, hX⟩)) | (go_split_ands; obtain ⟨q1, q2, q3, hD⟩ := C1.c (by assumption); have g4 := hD.at_ 4 (by omega); have g5 := hD.at_ 5 (by omega); have g6 := hD.at_ 6 (by omega); have f4 := hD.fz 4; have f5 := hD.fz 5; have f6 := hD.fz 6; go_simp))
    rename_i hH
    obtain ⟨T9, B9⟩ := C1.fin (W := wn) (by assumption) h mi se
    have HF9 := Lib.hid T9
    have HB9 := Lib.hid B9
    clear hH T T9 B9
    generalize (((wn.setCell ⟨A, 4, none⟩ (.int .i64 h)).setCell ⟨A, 5, none⟩ (.int .i64 mi)).setCell ⟨A, 6, none⟩ (.int .i64 se)) = W9 at *
    go_wp2_with (first | (go_at_call 48; (with_reducible refine (HP.out _).mono ?_); rintro e w2 ⟨rfl, rfl⟩) | (go_at_call 49; (with_reducible refine (HTL.out _).mono ?_); rintro e w2 ⟨rfl, hX⟩; have HF10 := Lib.hid (HF9.out.below hX HF9.out.lt); have HB10 := Lib.hid (HB9.out.trans (hX.mono (Nat.le_of_lt HF9.out.lt))); clear hX))
    go_ret2
    exact ⟨rfl, HB10.out⟩
set_option maxRecDepth 100000 in
set_option maxHeartbeats 4000000 in
theorem fclock_e (A : Nat) (s : ByteArray) (w : World) (k y mo d zh zm : Int) (hF : FC w A k y mo d 0 0 0 0 false zh zm) (h mi se na : Int) (hs : 8 ≤ s.size) (hf : formL (s.extract 0 8).data.toList p8 = true) (a1 : Lib.atoi (s.extract 0 2).data.toList = some h) (a2 : Lib.atoi (s.extract 3 5).data.toList = some mi) (a3 : Lib.atoi (s.extract 6 8).data.toList = some se) (hsx : s.size ≤ 9223372036854775807) (hp : Lib.hasPrefix (s.extract 8 s.size).data.toList [46] = true) (n : Nat) (hn : dcl (s.data.toList.drop 9) = n) (hn1 : 1 ≤ n) (hn9 : n ≤ 9) (a4 : Lib.atoi ((s.data.toList.drop 9).take n ++ List.replicate (9 - n) 48) = some na) : Calls Tryd.prog 35 #[.pointer (some ⟨A, 0, none⟩), .string s] w fun e w' => e = .returned (.tuple #[.string ⟨((s.data.toList.drop 9).drop n).toArray⟩, .bool true]) ∧ FC w' A k y mo d h mi se na false zh zm ∧ Below A w w' := by
  have hsz : (s.extract 8 s.size).size ≤ 9223372036854775807 := by rw [ByteArray.size_extract]; omega
  have hA := hF.lt
  have HF := Lib.hid hF
  have h1 : ¬ (s.size : Int) < 8 := by omega
  have h2 : (8 : Int) ≤ s.size := by omega
  have h22 : (2 : Int) ≤ s.size := by omega
  have h25 : (5 : Int) ≤ s.size := by omega
  have hz1 : (s.extract 0 2).size = 2 := ex_size _ _ _ (by omega)
  have hz2 : (s.extract 3 5).size = 2 := ex_size _ _ _ (by omega)
  have hz3 : (s.extract 6 8).size = 2 := ex_size _ _ _ (by omega)
  have hz8 : (s.extract 0 8).size = 8 := ex_size _ _ _ (by omega)
  obtain ⟨e0, he0⟩ : ∃ e0, s.extract 0 8 = e0 := ⟨_, rfl⟩
  obtain ⟨e1, he1⟩ : ∃ e0, s.extract 0 2 = e0 := ⟨_, rfl⟩
  obtain ⟨e2, he2⟩ : ∃ e0, s.extract 3 5 = e0 := ⟨_, rfl⟩
  obtain ⟨e3, he3⟩ : ∃ e0, s.extract 6 8 = e0 := ⟨_, rfl⟩
  obtain ⟨s1, hs1⟩ : ∃ e0, s.extract 8 s.size = e0 := ⟨_, rfl⟩
  rw [he0] at hf hz8
  rw [he1] at a1 hz1
  rw [he2] at a2 hz2
  rw [he3] at a3 hz3
  rw [hs1] at hp
  have HM := Lib.hid (fun w => matches_any e0 ⟨#[48, 48, 58, 48, 48, 58, 48, 48]⟩ w (by omega))
  rw [show formL e0.data.toList (⟨#[48, 48, 58, 48, 48, 58, 48, 48]⟩ : ByteArray).data.toList = true from hf] at HM
  have HN1 := Lib.hid (fun w => number_any e1 h w (by omega) a1)
  have HN2 := Lib.hid (fun w => number_any e2 mi w (by omega) a2)
  have HN3 := Lib.hid (fun w => number_any e3 se w (by omega) a3)
  have HP : Hid (∀ w, Calls Tryd.prog 48 #[.string s1, .string ⟨#[46]⟩] w fun e w' => e = .returned (.bool true) ∧ w' = w) := Lib.hid (fun w => by
    have := Tryd.strings_HasPrefix s1 ⟨#[46]⟩ w
    rwa [show Lib.hasPrefix s1.data.toList (⟨#[46]⟩ : ByteArray).data.toList = true from hp] at this)
  rw [hs1] at hsz
  have hszz : (s1.extract 1 s1.size).size ≤ 9223372036854775807 := by rw [ByteArray.size_extract]; omega
  have hsm : 1 ≤ s1.size := by
    cases hc : s1.data.toList with
    | nil => rw [hc] at hp; cases hp
    | cons a t => show 1 ≤ s1.data.toList.length; rw [hc]; simp
  have hsm2 : (1 : Int) ≤ s1.size := by omega
  obtain ⟨s2, hs2⟩ : ∃ e0, s1.extract 1 s1.size = e0 := ⟨_, rfl⟩
  have hE2 : s2.data.toList = s.data.toList.drop 9 := ex_frac hs1 hs2
  obtain ⟨t, ht⟩ : ∃ t : ByteArray, (⟨(Lib.trimLeftS s2.data.toList [48, 49, 50, 51, 52, 53, 54, 55, 56, 57]).toArray⟩ : ByteArray) = t := ⟨_, rfl⟩
  have hzt := trim_size (n := n) ht (by rw [hE2]; exact hn)
  obtain ⟨hzt, hzn⟩ := hzt
  rw [hs2] at hszz
  have hwn : IntKind.i64.wrap ((s2.size : Int) - (t.size : Int)) = (n : Int) := by rw [show (s2.size : Int) - (t.size : Int) = (n : Int) by omega]; exact IntWalk.i64_in _ (by omega)
  have HTL := Lib.hid (fun w => trim_digits s2 w)
  rw [ht] at HTL
  rw [← hE2] at a4 ⊢
  obtain ⟨c, hc⟩ : ∃ c : Nat, 9 - n = c := ⟨_, rfl⟩
  rw [hc] at a4
  have hwc : IntKind.i64.wrap (9 - (n : Int)) = (c : Int) := by rw [show (9 : Int) - (n : Int) = (c : Int) by omega]; exact IntWalk.i64_in _ (by omega)
  obtain ⟨Z, hZ⟩ : ∃ Z : ByteArray, (⟨(Lib.repeatL [48] c).toArray⟩ : ByteArray) = Z := ⟨_, rfl⟩
  have HRE : Hid (∀ w, Calls Tryd.prog 42 #[.string ⟨#[48]⟩, .int .i64 c] w fun e w' => e = .returned (.string Z) ∧ Below w.heap.size w w') := Lib.hid (fun w => by
    have := Tryd.strings_Repeat ⟨#[48]⟩ c w (by omega) (by show 1 * c ≤ _; omega)
    rwa [show (⟨(Lib.repeatL (⟨#[48]⟩ : ByteArray).data.toList c).toArray⟩ : ByteArray) = Z from hZ] at this)
  have zz : Z.size = c := by rw [← hZ, rep_list]; simp [ByteArray.size]
  have zu : (s2.extract 0 n).size = n := ex_size _ _ _ hzn
  have hRR := ex_tail s2 n
  obtain ⟨r, hr⟩ : ∃ r, s2.extract n s2.size = r := ⟨_, rfl⟩
  rw [← hRR, hr]
  have a5 : Lib.atoi ((s2.extract 0 n) ++ Z).data.toList = some na := by
    rw [ls_app, ex_sub, ← hZ, rep_list]
    unfold sub
    simpa using a4
  obtain ⟨u, hu⟩ : ∃ u, s2.extract 0 n = u := ⟨_, rfl⟩
  rw [hu] at a5 zu
  have HN4 := Lib.hid (fun w => number_any (u ++ Z) na w (by rw [sz_app]; omega) a5)
  have hc1 : ¬ 9223372036854775807 < u.size + Z.size := by omega
  have hc2 : u.size + Z.size ≤ 9223372036854775807 := by omega
  have hb1 : ¬ (n : Int) < 1 := by omega
  have hb2 : ¬ (9 : Int) < n := by omega
  have hb3 : (n : Int) ≤ s2.size := by omega
  have hb4 : (0 : Int) ≤ n := by omega
  clear a1 a2 a3 a4 a5 hf hF hp hz1 hz2 hz3 hz8 ht hE2 hn hzt hzn hszz hRR hZ hc zz zu
  go_enter Tryd.func35, Tryd.ntmps35
  go_wp2_with (go_at_call 33; (with_reducible refine (HM.out _).mono ?_); rintro e w1 ⟨rfl, hX⟩; have HF1 := Lib.hid (HF.out.below hX hA); have HB1 := Lib.hid (hX.mono (Nat.le_of_lt hA)); clear hX)
  have T : C1 w w1 A k y mo d 0 false zh zm := ⟨⟨_, _, _, HF1.out⟩, HB1.out⟩
  go_region_held3 (fun (W : World) => C1 w W A k y mo d 0 false zh zm ∧ True) ((first | (exact ⟨by assumption, trivial⟩) | (go_split_ands; exact ⟨C1.dr (by assumption), trivial⟩) | (go_split_ands; exact ⟨C1.step hX (by assumption), trivial⟩) | (go_split_ands; exact ⟨C1.p4 (by assumption) _, trivial⟩) | (go_split_ands; exact ⟨C1.p5 (by assumption) _, trivial⟩) | (go_split_ands; exact ⟨C1.p6 (by assumption) _, trivial⟩))) (first | (go_at_call 34; first | ((with_reducible refine (HN1.out _).mono ?_); rintro e wn ⟨rfl, hX⟩) | ((with_reducible refine (HN2.out _).mono ?_); rintro e wn ⟨rfl, hX⟩) | ((with_reducible refine (HN3.out _).mono ?_); rintro e wn ⟨rfl, hX⟩)) | (go_split_ands; obtain ⟨q1, q2, q3, hD⟩ := C1.c (by assumption); have g4 := hD.at_ 4 (by omega); have g5 := hD.at_ 5 (by omega); have g6 := hD.at_ 6 (by omega); have f4 := hD.fz 4; have f5 := hD.fz 5; have f6 := hD.fz 6; go_simp))
  rename_i hH
  obtain ⟨T9, B9⟩ := C1.fin (W := wn) (by assumption) h mi se
  have HF9 := Lib.hid T9
  have HB9 := Lib.hid B9
  clear hH T T9 B9
  generalize (((wn.setCell ⟨A, 4, none⟩ (.int .i64 h)).setCell ⟨A, 5, none⟩ (.int .i64 mi)).setCell ⟨A, 6, none⟩ (.int .i64 se)) = W9 at *
  go_wp2_with (first | (go_at_call 48; (with_reducible refine (HP.out _).mono ?_); rintro e w2 ⟨rfl, rfl⟩) | (go_at_call 49; (with_reducible refine (HTL.out _).mono ?_); rintro e w2 ⟨rfl, hX⟩; have HF10 := Lib.hid (HF9.out.below hX HF9.out.lt); have HB10 := Lib.hid (HB9.out.trans (hX.mono (Nat.le_of_lt HF9.out.lt))); clear hX))
  have T : C7 w w2 A k y mo d h mi se false zh zm := ⟨⟨_, HF10.out⟩, HB10.out⟩
  go_region_held3 (fun (W : World) => C7 w W A k y mo d h mi se false zh zm ∧ True) ((first | (exact ⟨by assumption, trivial⟩) | (go_split_ands; exact ⟨C7.dr (by assumption), trivial⟩) | (go_split_ands; exact ⟨C7.step hX (by assumption), trivial⟩) | (go_split_ands; exact ⟨C7.p (by assumption) _, trivial⟩))) (first | (go_at_call 42; (with_reducible refine (HRE.out _).mono ?_); rintro e wm ⟨rfl, hX⟩) | (go_at_call 34; (with_reducible refine (HN4.out _).mono ?_); rintro e wm ⟨rfl, hX⟩) | (go_split_ands; obtain ⟨q1, hD⟩ := C7.c (by assumption); have g7 := hD.at_ 7 (by omega); have f7 := hD.fz 7; go_simp))
  rename_i hH
  obtain ⟨T9, B9⟩ := C7.fin (W := wm) (by assumption) na
  have HF11 := Lib.hid T9
  have HB11 := Lib.hid B9
  clear hH T T9 B9 hwc
  go_wp2
  go_ret2
  exact ⟨rfl, HF11.out, HB11.out⟩
end Go.Proofs.YtkbddelacjjapaaDoor.Mom
