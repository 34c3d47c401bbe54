/-
  Package moment: time of day and offset of any text.
-/
import Derived.Test.YtkbddelacjjapaaDoorMomBC
namespace Go.Proofs.YtkbddelacjjapaaDoor.Mom
open Go.RowKit
set_option linter.unusedVariables false
set_option linter.unusedSimpArgs false

def CKpost (A : Nat) (w : World) (k y mo d : Int) : Option (Nat × Nat × Nat × Nat × List UInt8) → Ending → World → Prop
  | none, e, w' => e = .returned (.tuple #[.string ⟨#[]⟩, .bool false]) ∧ Below A w w'
  | some (h, mi, se, na, r), e, w' => e = .returned (.tuple #[.string ⟨r.toArray⟩, .bool true]) ∧ FC w' A k y mo d h mi se na false 0 0 ∧ Below A w w'
theorem form_size {s : ByteArray} {n : Nat} {p : List UInt8} (h : formL (s.extract 0 n).data.toList p = true) (hp : p.length = n) : n ≤ s.size := by
  have := form_len _ _ h
  have h2 : (s.extract 0 n).data.toList.length = (s.extract 0 n).size := rfl
  rw [h2, ByteArray.size_extract] at this
  omega
theorem fclock_any (A : Nat) (s : ByteArray) (w : World) (k y mo d : Int) (hF : FC w A k y mo d 0 0 0 0 false 0 0) (hs : s.size ≤ 9223372036854775807) : Calls Tryd.prog 35 #[.pointer (some ⟨A, 0, none⟩), .string s] w fun e w' => CKpost A w k y mo d (clkL s.data.toList) e w' := by
  by_cases hf : formL (s.extract 0 8).data.toList p8 = true
  · have h8 := form_size hf rfl
    have hf2 : formL (sub s.data.toList 0 8) p8 = true := by rw [← ex_sub]; exact hf
    have n1 := sub_num hf2 0 2 (by decide) (by decide) (idx2 _ (by decide))
    have n2 := sub_num hf2 3 5 (by decide) (by decide) (idx2 _ (by decide))
    have n3 := sub_num hf2 6 8 (by decide) (by decide) (idx2 _ (by decide))
    have ne : ∀ l : List UInt8, l.length = 2 → l ≠ [] := fun l hl e => by rw [e] at hl; cases hl
    have a1 := atoi_digs _ (ne _ n1.1) n1.2.1
    have a2 := atoi_digs _ (ne _ n2.1) n2.2.1
    have a3 := atoi_digs _ (ne _ n3.1) n3.2.1
    have hd : Lib.hasPrefix (s.extract 8 s.size).data.toList [46] = decide ((s.data.toList.drop 8).head? = some 46) := by rw [pre_dot, ex_end]
    by_cases hh : (s.data.toList.drop 8).head? = some 46
    · rw [decide_eq_true hh] at hd
      by_cases hn : 1 ≤ dcl (s.data.toList.drop 9) ∧ dcl (s.data.toList.drop 9) ≤ 9
      · have e : clkL s.data.toList = some (nvl (sub s.data.toList 0 2), nvl (sub s.data.toList 3 5), nvl (sub s.data.toList 6 8), nvl ((s.data.toList.drop 9).take (dcl (s.data.toList.drop 9)) ++ List.replicate (9 - dcl (s.data.toList.drop 9)) 48), (s.data.toList.drop 9).drop (dcl (s.data.toList.drop 9))) := by unfold clkL; rw [if_pos hf2, if_pos hh, if_pos hn]
        rw [e]
        have fd := frac_dg _ hn.2
        exact fclock_e A s w k y mo d 0 0 hF _ _ _ _ h8 hf (by rw [ex_sub]; exact a1) (by rw [ex_sub]; exact a2) (by rw [ex_sub]; exact a3) hs hd _ rfl hn.1 hn.2 (atoi_digs _ (fun e => by rw [e] at fd; cases fd.1) fd.2)
      · have e : clkL s.data.toList = none := by unfold clkL; rw [if_pos hf2, if_pos hh, if_neg hn]
        rw [e]
        exact fclock_d A s w k y mo d 0 0 hF _ _ _ h8 hf (by rw [ex_sub]; exact a1) (by rw [ex_sub]; exact a2) (by rw [ex_sub]; exact a3) hs hd _ rfl (by omega)
    · rw [decide_eq_false hh] at hd
      have e : clkL s.data.toList = some (nvl (sub s.data.toList 0 2), nvl (sub s.data.toList 3 5), nvl (sub s.data.toList 6 8), 0, s.data.toList.drop 8) := by unfold clkL; rw [if_pos hf2, if_neg hh]
      rw [e]
      have := fclock_c A s w k y mo d 0 0 hF _ _ _ h8 hf (by rw [ex_sub]; exact a1) (by rw [ex_sub]; exact a2) (by rw [ex_sub]; exact a3) hd
      rw [ex_tail] at this
      exact this
  · have e : clkL s.data.toList = none := by unfold clkL; rw [if_neg (by rw [← ex_sub]; exact hf)]
    rw [e]
    by_cases h8 : 8 ≤ s.size
    · exact fclock_b A s w k y mo d 0 0 hF h8 (by simpa using hf)
    · exact fclock_a A s w k y mo d 0 0 hF (by omega)
set_option maxRecDepth 100000 in
set_option maxHeartbeats 4000000 in
theorem fzone_z (A : Nat) (s : ByteArray) (w : World) (k y mo d h mi se na : Int) (hF : FC w A k y mo d h mi se na false 0 0) (hz : s.data.toList = [90] ∨ s.data.toList = [122]) : Calls Tryd.prog 36 #[.pointer (some ⟨A, 0, none⟩), .string s] w fun e w' => e = .returned (.bool true) ∧ w' = w := by
  clear hF
  rcases hz with hz | hz
  · have b1 : (s.toList == [90]) = true := by rw [toList_data, hz]; rfl
    clear hz
    go_enter Tryd.func36, Tryd.ntmps36
    go_wp2
    go_ret
    exact ⟨rfl, rfl⟩
  · have b1 : (s.toList == [90]) = false := by rw [toList_data, hz]; rfl
    have b2 : (s.toList == [122]) = true := by rw [toList_data, hz]; rfl
    clear hz
    go_enter Tryd.func36, Tryd.ntmps36
    go_wp2
    go_ret
    exact ⟨rfl, rfl⟩
set_option maxRecDepth 100000 in
set_option maxHeartbeats 4000000 in
theorem fzone_no (A : Nat) (s : ByteArray) (w : World) (k y mo d h mi se na : Int) (hF : FC w A k y mo d h mi se na false 0 0) (hs : s.size ≤ 9223372036854775807) (hz1 : s.data.toList ≠ [90]) (hz2 : s.data.toList ≠ [122]) (hp : formL s.data.toList pP = false) (hm : formL s.data.toList pM = false) : Calls Tryd.prog 36 #[.pointer (some ⟨A, 0, none⟩), .string s] w fun e w' => e = .returned (.bool false) ∧ Below A w w' := by
  have b1 : (s.toList == [90]) = false := by rw [beq_eq_false_iff_ne, toList_data]; exact hz1
  have b2 : (s.toList == [122]) = false := by rw [beq_eq_false_iff_ne, toList_data]; exact hz2
  have HM1 := Lib.hid (fun w => matches_any s ⟨#[43, 48, 48, 58, 48, 48]⟩ w hs)
  have HM2 := Lib.hid (fun w => matches_any s ⟨#[45, 48, 48, 58, 48, 48]⟩ w hs)
  rw [show formL s.data.toList (⟨#[43, 48, 48, 58, 48, 48]⟩ : ByteArray).data.toList = false from hp] at HM1
  rw [show formL s.data.toList (⟨#[45, 48, 48, 58, 48, 48]⟩ : ByteArray).data.toList = false from hm] at HM2
  have hA := hF.lt
  have HF := Lib.hid hF
  clear hF hz1 hz2 hp hm hs
  go_enter Tryd.func36, Tryd.ntmps36
  go_wp2_with (first | (go_at_call 33; (with_reducible refine (HM1.out _).mono ?_); rintro e w1 ⟨rfl, hX⟩; have HF1 := Lib.hid (HF.out.below hX hA); have HB1 := Lib.hid (hX.mono (Nat.le_of_lt hA)); have g8 : w1.cell? ⟨A, 8, none⟩ = some (.bool false) := HF1.out.at_ 8 (by omega); have f8 := HF1.out.fz 8; have HFb := Lib.hid (HF1.out.p8 false); have HBb := Lib.hid (HB1.out.setCell (p := ⟨A, 8, none⟩) (Nat.le_refl _) (.bool false)); have k8 : (w1.setCell ⟨A, 8, none⟩ (.bool false)).cell? ⟨A, 8, none⟩ = some (.bool false) := HFb.out.at_ 8 (by omega); clear hX) | (go_at_call 33; (with_reducible refine (HM2.out _).mono ?_); rintro e w2 ⟨rfl, hX⟩; have HF2 := Lib.hid (HFb.out.below hX HFb.out.lt); have HB2 := Lib.hid (HBb.out.trans (hX.mono (Nat.le_of_lt HFb.out.lt))); clear hX))
  go_ret
  exact ⟨rfl, HB2.out⟩
set_option maxRecDepth 100000 in
set_option maxHeartbeats 4000000 in
theorem fzone_m (A : Nat) (s : ByteArray) (w : World) (k y mo d h mi se na : Int) (hF : FC w A k y mo d h mi se na false 0 0) (zh zm : Int) (hs : s.size = 6) (hz1 : s.data.toList ≠ [90]) (hz2 : s.data.toList ≠ [122]) (hp : formL s.data.toList pP = false) (hm : formL s.data.toList pM = true) (a1 : Lib.atoi (s.extract 1 3).data.toList = some zh) (a2 : Lib.atoi (s.extract 4 6).data.toList = some zm) : Calls Tryd.prog 36 #[.pointer (some ⟨A, 0, none⟩), .string s] w fun e w' => e = .returned (.bool true) ∧ FC w' A k y mo d h mi se na false zh zm ∧ Below A w w' := by
  have hz := hs
  replace hs : s.size ≤ 9223372036854775807 := by omega
  have b1 : (s.toList == [90]) = false := by rw [beq_eq_false_iff_ne, toList_data]; exact hz1
  have b2 : (s.toList == [122]) = false := by rw [beq_eq_false_iff_ne, toList_data]; exact hz2
  have HM1 := Lib.hid (fun w => matches_any s ⟨#[43, 48, 48, 58, 48, 48]⟩ w hs)
  have HM2 := Lib.hid (fun w => matches_any s ⟨#[45, 48, 48, 58, 48, 48]⟩ w hs)
  rw [show formL s.data.toList (⟨#[43, 48, 48, 58, 48, 48]⟩ : ByteArray).data.toList = false from hp] at HM1
  rw [show formL s.data.toList (⟨#[45, 48, 48, 58, 48, 48]⟩ : ByteArray).data.toList = true from hm] at HM2
  have hA := hF.lt
  have HF := Lib.hid hF
  have hq1 : (s.extract 1 3).size = 2 := ex_size _ _ _ (by omega)
  have hq2 : (s.extract 4 6).size = 2 := ex_size _ _ _ (by omega)
  obtain ⟨e1, he1⟩ : ∃ e0, s.extract 1 3 = e0 := ⟨_, rfl⟩
  obtain ⟨e2, he2⟩ : ∃ e0, s.extract 4 6 = e0 := ⟨_, rfl⟩
  rw [he1] at a1 hq1
  rw [he2] at a2 hq2
  have HN1 := Lib.hid (fun w => number_any e1 zh w (by omega) a1)
  have HN2 := Lib.hid (fun w => number_any e2 zm w (by omega) a2)
  clear hF hz1 hz2 hp hm a1 a2 hq1 hq2 hs
  go_enter Tryd.func36, Tryd.ntmps36
  go_wp2_with (first | (go_at_call 33; (with_reducible refine (HM1.out _).mono ?_); rintro e w1 ⟨rfl, hX⟩; have HF1 := Lib.hid (HF.out.below hX hA); have HB1 := Lib.hid (hX.mono (Nat.le_of_lt hA)); have g8 : w1.cell? ⟨A, 8, none⟩ = some (.bool false) := HF1.out.at_ 8 (by omega); have f8 := HF1.out.fz 8; have HFb := Lib.hid (HF1.out.p8 false); have HBb := Lib.hid (HB1.out.setCell (p := ⟨A, 8, none⟩) (Nat.le_refl _) (.bool false)); have k8 : (w1.setCell ⟨A, 8, none⟩ (.bool false)).cell? ⟨A, 8, none⟩ = some (.bool false) := HFb.out.at_ 8 (by omega); clear hX) | (go_at_call 33; (with_reducible refine (HM2.out _).mono ?_); rintro e w2 ⟨rfl, hX⟩; have HF2 := Lib.hid (HFb.out.below hX HFb.out.lt); have HB2 := Lib.hid (HBb.out.trans (hX.mono (Nat.le_of_lt HFb.out.lt))); clear hX))
  have T : C9 w w2 A k y mo d h mi se na false := ⟨⟨_, _, HF2.out⟩, HB2.out⟩
  clear g8 f8 k8
  go_region_held3 (fun (W : World) => C9 w W A k y mo d h mi se na false ∧ True) ((first | (exact ⟨by assumption, trivial⟩) | (go_split_ands; exact ⟨C9.dr (by assumption), trivial⟩) | (go_split_ands; exact ⟨C9.step hX (by assumption), trivial⟩) | (go_split_ands; exact ⟨C9.p9 (by assumption) _, trivial⟩) | (go_split_ands; exact ⟨C9.p10 (by assumption) _, trivial⟩))) (first | (go_at_call 34; first | ((with_reducible refine (HN1.out _).mono ?_); rintro e wn ⟨rfl, hX⟩) | ((with_reducible refine (HN2.out _).mono ?_); rintro e wn ⟨rfl, hX⟩)) | (go_split_ands; obtain ⟨q1, q2, hD⟩ := C9.c (by assumption); have g9 := hD.at_ 9 (by omega); have g10 := hD.at_ 10 (by omega); have f9 := hD.fz 9; have f10 := hD.fz 10; go_simp))
  rename_i hH
  obtain ⟨T9, B9⟩ := C9.fin (W := wn) (by assumption) zh zm
  have HF9 := Lib.hid T9
  have HB9 := Lib.hid B9
  clear hH T T9 B9
  go_wp2
  go_ret
  exact ⟨rfl, HF9.out, HB9.out⟩
def ZKpost (A : Nat) (w : World) (k y mo d h mi se na : Int) : Option (Bool × Nat × Nat) → Ending → World → Prop
  | none, e, w' => e = .returned (.bool false) ∧ Below A w w'
  | some (ea, zh, zm), e, w' => e = .returned (.bool true) ∧ FC w' A k y mo d h mi se na ea zh zm ∧ Below A w w'
theorem fzone_any (A : Nat) (s : ByteArray) (w : World) (k y mo d h mi se na : Int) (hF : FC w A k y mo d h mi se na false 0 0) (hs : s.size ≤ 9223372036854775807) : Calls Tryd.prog 36 #[.pointer (some ⟨A, 0, none⟩), .string s] w fun e w' => ZKpost A w k y mo d h mi se na (znpL s.data.toList) e w' := by
  by_cases hz : s.data.toList = [90] ∨ s.data.toList = [122]
  · have e : znpL s.data.toList = some (false, 0, 0) := by unfold znpL; rw [if_pos hz]
    rw [e]
    refine (fzone_z A s w k y mo d h mi se na hF hz).mono ?_
    rintro e w' ⟨rfl, rfl⟩
    exact ⟨rfl, hF, Below.refl _ _⟩
  · have hz1 : s.data.toList ≠ [90] := fun e => hz (.inl e)
    have hz2 : s.data.toList ≠ [122] := fun e => hz (.inr e)
    have key : ∀ p : List UInt8, (p = pP ∨ p = pM) → formL s.data.toList p = true → s.size = 6 ∧ Lib.atoi (s.extract 1 3).data.toList = some (nvl (sub s.data.toList 1 3) : Int) ∧ Lib.atoi (s.extract 4 6).data.toList = some (nvl (sub s.data.toList 4 6) : Int) := fun p hp hf => by
      have e1 := form_sub hf 1 3 (by rcases hp with rfl | rfl <;> decide) (by rcases hp with rfl | rfl <;> exact idx2 _ (by decide))
      have e2 := form_sub hf 4 6 (by rcases hp with rfl | rfl <;> decide) (by rcases hp with rfl | rfl <;> exact idx2 _ (by decide))
      have ne : ∀ l : List UInt8, l.length = 2 → l ≠ [] := fun l hl e => by rw [e] at hl; cases hl
      refine ⟨?_, ?_, ?_⟩
      · have := form_len _ _ hf
        rcases hp with rfl | rfl <;> exact this
      · rw [ex_sub]; exact atoi_digs _ (ne _ e1.1) e1.2
      · rw [ex_sub]; exact atoi_digs _ (ne _ e2.1) e2.2
    by_cases hp : formL s.data.toList pP = true
    · have e : znpL s.data.toList = some (true, nvl (sub s.data.toList 1 3), nvl (sub s.data.toList 4 6)) := by unfold znpL; rw [if_neg hz, if_pos hp]
      rw [e]
      obtain ⟨h6, a1, a2⟩ := key _ (.inl rfl) hp
      exact fzone_lit A s _ _ _ _ w k y mo d h mi se na 0 0 hF h6 (form_of hp) rfl rfl (ex_size _ _ _ (by omega)) (ex_size _ _ _ (by omega)) a1 a2
    · by_cases hm : formL s.data.toList pM = true
      · have e : znpL s.data.toList = some (false, nvl (sub s.data.toList 1 3), nvl (sub s.data.toList 4 6)) := by unfold znpL; rw [if_neg hz, if_neg hp, if_pos hm]
        rw [e]
        obtain ⟨h6, a1, a2⟩ := key _ (.inr rfl) hm
        exact fzone_m A s w k y mo d h mi se na hF _ _ h6 hz1 hz2 (by simpa using hp) hm a1 a2
      · have e : znpL s.data.toList = none := by unfold znpL; rw [if_neg hz, if_neg hp, if_neg hm]
        rw [e]
        exact fzone_no A s w k y mo d h mi se na hF hs hz1 hz2 (by simpa using hp) (by simpa using hm)
end Go.Proofs.YtkbddelacjjapaaDoor.Mom
