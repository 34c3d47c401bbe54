/-
  Package moment's reference: time of day and offset of any text, in one contract each.
-/
import Derived.Test.YtkbddelacjjapaaDoorMomBH
import Derived.Test.YtkbddelacjjapaaDoorMomBF
namespace Go.Proofs.YtkbddelacjjapaaDoor.Mom
open Go.RowKit
set_option linter.unusedVariables false
set_option linter.unusedSimpArgs false

theorem rtake_any (s : ByteArray) (w : World) (hs : s.size ≤ 9223372036854775807) : Calls Tryd.prog 25 #[.string s] w fun e w' => TKpost w (clkL s.data.toList) e w' := by
  by_cases hf : formL (sub s.data.toList 0 8) p8 = true
  · have h8 : 8 ≤ s.size := form_size (by rw [ex_sub]; exact hf) rfl
    by_cases hh : (s.data.toList.drop 8).head? = some 46
    · by_cases hn : 1 ≤ dcl (s.data.toList.drop 9) ∧ dcl (s.data.toList.drop 9) ≤ 9
      · have e : clkL s.data.toList = some (nvl (sub s.data.toList 0 2), nvl (sub s.data.toList 3 5), nvl (sub s.data.toList 6 8), nvl ((s.data.toList.drop 9).take (dcl (s.data.toList.drop 9)) ++ List.replicate (9 - dcl (s.data.toList.drop 9)) 48), (s.data.toList.drop 9).drop (dcl (s.data.toList.drop 9))) := by unfold clkL; rw [if_pos hf, if_pos hh, if_pos hn]
        rw [e]
        exact rtake_e s w _ _ _ h8 hf rfl rfl rfl hs hh _ rfl hn.1 hn.2 _ rfl
      · have e : clkL s.data.toList = none := by unfold clkL; rw [if_pos hf, if_pos hh, if_neg hn]
        rw [e]
        exact rtake_d s w _ _ _ h8 hf rfl rfl rfl hs hh _ rfl (by omega)
    · have e : clkL s.data.toList = some (nvl (sub s.data.toList 0 2), nvl (sub s.data.toList 3 5), nvl (sub s.data.toList 6 8), 0, s.data.toList.drop 8) := by unfold clkL; rw [if_pos hf, if_neg hh]
      rw [e]
      have := rtake_c s w _ _ _ h8 hf rfl rfl rfl hh
      rw [ex_tail] at this
      exact this
  · have e : clkL s.data.toList = none := by unfold clkL; rw [if_neg hf]
    rw [e]
    exact rtake_b s w (by simpa using hf)
def TOpost (w : World) : Option (Bool × Nat × Nat) → Ending → World → Prop
  | none, e, w' => e = .returned (.tuple #[.int .i64 0, .bool false, .bool false]) ∧ Below w.heap.size w w'
  | some (ea, zh, zm), e, w' => e = .returned (.tuple #[.int .i64 (if ea = true then (zh : Int) * 60 + zm else -((zh : Int) * 60 + zm)), .bool true, .bool (decide (zh ≤ 23 ∧ zm ≤ 59))]) ∧ Below w.heap.size w w'
theorem to3 {a b : Int} {x y : Bool} (h1 : a = b) (h2 : x = y) : Ending.returned (.tuple #[.int .i64 a, .bool true, .bool x]) = .returned (.tuple #[.int .i64 b, .bool true, .bool y]) := by rw [h1, h2]
set_option maxRecDepth 100000 in
set_option maxHeartbeats 4000000 in
theorem roffs_z (s : ByteArray) (w : World) (hz : s.data.toList = [90] ∨ s.data.toList = [122]) : Calls Tryd.prog 28 #[.string s] w fun e w' => e = .returned (.tuple #[.int .i64 0, .bool true, .bool true]) ∧ Below w.heap.size w w' := by
  rcases hz with hz | hz
  · have b1 : (s.toList == [90]) = true := by rw [toList_data, hz]; rfl
    clear hz
    go_enter Tryd.func28, Tryd.ntmps28
    go_wp2
    go_ret3
    exact ⟨rfl, Below.refl _ _⟩
  · have b1 : (s.toList == [90]) = false := by rw [toList_data, hz]; rfl
    have b2 : (s.toList == [122]) = true := by rw [toList_data, hz]; rfl
    clear hz
    go_enter Tryd.func28, Tryd.ntmps28
    go_wp2
    go_ret3
    exact ⟨rfl, Below.refl _ _⟩
theorem like_six (l p q : List UInt8) (hl : l.length = 6) (hq : q = p.map wild) (hn : p.length = 6) (hp : ∀ b ∈ p, b ≠ 100) : likeL l q = formL l p := by
  rw [hq, like_form p l hp, hn, List.take_of_length_le (by omega)]
set_option maxRecDepth 100000 in
set_option maxHeartbeats 4000000 in
theorem roffs_n (s : ByteArray) (w : World) (hz : ¬ (s.data.toList = [90] ∨ s.data.toList = [122])) (h6 : s.size ≠ 6) : Calls Tryd.prog 28 #[.string s] w fun e w' => e = .returned (.tuple #[.int .i64 0, .bool false, .bool false]) ∧ Below w.heap.size w w' := by
  have b1 : (s.toList == [90]) = false := by rw [beq_eq_false_iff_ne, toList_data]; exact fun e => hz (.inl e)
  have b2 : (s.toList == [122]) = false := by rw [beq_eq_false_iff_ne, toList_data]; exact fun e => hz (.inr e)
  clear hz
  have h6i : ((s.size : Int) != 6) = true := by rw [bne_iff_ne]; omega
  clear h6
  go_enter Tryd.func28, Tryd.ntmps28
  go_wp2
  go_ret3
  exact ⟨rfl, Below.refl _ _⟩
set_option maxRecDepth 100000 in
set_option maxHeartbeats 4000000 in
theorem roffs_b (s : ByteArray) (w : World) (hz : ¬ (s.data.toList = [90] ∨ s.data.toList = [122])) (h6 : s.size = 6) (hp : formL s.data.toList pP = false) (hm : formL s.data.toList pM = false) : Calls Tryd.prog 28 #[.string s] w fun e w' => e = .returned (.tuple #[.int .i64 0, .bool false, .bool false]) ∧ Below w.heap.size w w' := by
  have b1 : (s.toList == [90]) = false := by rw [beq_eq_false_iff_ne, toList_data]; exact fun e => hz (.inl e)
  have b2 : (s.toList == [122]) = false := by rw [beq_eq_false_iff_ne, toList_data]; exact fun e => hz (.inr e)
  clear hz
  have hl6 : s.data.toList.length = 6 := h6
  have h6i : ((s.size : Int) != 6) = false := by rw [bne_eq_false_iff_eq]; omega
  have HP := Lib.hid (fun w => like_any s ⟨#[43, 100, 100, 58, 100, 100]⟩ w (by decide))
  rw [show likeL s.data.toList (⟨#[43, 100, 100, 58, 100, 100]⟩ : ByteArray).data.toList = false by rw [← hp]; exact like_six _ _ _ hl6 (by decide) rfl (by decide)] at HP
  have HM := Lib.hid (fun w => like_any s ⟨#[45, 100, 100, 58, 100, 100]⟩ w (by decide))
  rw [show likeL s.data.toList (⟨#[45, 100, 100, 58, 100, 100]⟩ : ByteArray).data.toList = false by rw [← hm]; exact like_six _ _ _ hl6 (by decide) rfl (by decide)] at HM
  have HB0 : Hid (Below w.heap.size w w) := Lib.hid (Below.refl _ _)
  clear h6 hl6 hp hm
  go_enter Tryd.func28, Tryd.ntmps28
  go_wp2_with (first | (go_at_call 24; (with_reducible refine (HP.out _).mono ?_); rintro e w1 ⟨rfl, hX⟩; have HB1 := Lib.hid (HB0.out.trans (hX.mono HB0.out.size)); clear hX) | (go_at_call 24; (with_reducible refine (HM.out _).mono ?_); rintro e w1 ⟨rfl, hX⟩; have HB1 := Lib.hid (HB1.out.trans (hX.mono HB1.out.size)); clear hX))
  go_ret3
  exact ⟨rfl, HB1.out⟩
set_option maxRecDepth 100000 in
set_option maxHeartbeats 4000000 in
theorem roffs_p (s : ByteArray) (w : World) (zh zm : Nat) (hz : ¬ (s.data.toList = [90] ∨ s.data.toList = [122])) (hp : formL s.data.toList pP = true) (a1 : nvl (sub s.data.toList 1 3) = zh) (a2 : nvl (sub s.data.toList 4 6) = zm) : Calls Tryd.prog 28 #[.string s] w fun e w' => e = .returned (.tuple #[.int .i64 ((zh : Int) * 60 + zm), .bool true, .bool (decide (zh ≤ 23 ∧ zm ≤ 59))]) ∧ Below w.heap.size w w' := by
  have h6 : s.size = 6 := form_len _ _ hp
  have n1 := form_sub hp 1 3 (by decide) (idx2 _ (by decide))
  have n2 := form_sub hp 4 6 (by decide) (idx2 _ (by decide))
  have lh : zh < 100 := by rw [← a1]; exact nvl_lt _ _ n1.1 n1.2
  have lm : zm < 100 := by rw [← a2]; exact nvl_lt _ _ n2.1 n2.2
  have HN1 := Lib.hid (fun w => rnum_at (s.extract 1 3) zh w (by rw [ex_sub, n1.1]; decide) (by rw [ex_sub]; exact n1.2) (by rw [ex_sub]; exact a1))
  have HN2 := Lib.hid (fun w => rnum_at (s.extract 4 6) zm w (by rw [ex_sub, n2.1]; decide) (by rw [ex_sub]; exact n2.2) (by rw [ex_sub]; exact a2))
  have h0 : 0 < s.size := by omega
  have hc : s[0] = 43 := by
    rcases form_at _ _ hp 0 s[0] 43 (by rw [← List.head?_eq_getElem?]; exact head_at0 s h0) rfl with ⟨q, _⟩ | ⟨_, q⟩
    · exact absurd q (by decide)
    · exact q
  have hci : ((s[0].toNat : Int) == 45) = false := by rw [hc]; rfl
  have h2 : (0 : Int) < s.size := by omega
  have h23 : (3 : Int) ≤ s.size := by omega
  have h24 : (4 : Int) ≤ s.size := by omega
  have h26 : (6 : Int) ≤ s.size := by omega
  have b1 : (s.toList == [90]) = false := by rw [beq_eq_false_iff_ne, toList_data]; exact fun e => hz (.inl e)
  have b2 : (s.toList == [122]) = false := by rw [beq_eq_false_iff_ne, toList_data]; exact fun e => hz (.inr e)
  clear hz
  have hl6 : s.data.toList.length = 6 := h6
  have h6i : ((s.size : Int) != 6) = false := by rw [bne_eq_false_iff_eq]; omega
  have HP := Lib.hid (fun w => like_any s ⟨#[43, 100, 100, 58, 100, 100]⟩ w (by decide))
  rw [show likeL s.data.toList (⟨#[43, 100, 100, 58, 100, 100]⟩ : ByteArray).data.toList = true by rw [← hp]; exact like_six _ _ _ hl6 (by decide) rfl (by decide)] at HP
  have HB0 : Hid (Below w.heap.size w w) := Lib.hid (Below.refl _ _)
  have v1 : IntKind.i64.wrap ((zh : Int) * 60) = zh * 60 := IntWalk.i64_in _ (by omega)
  have v2 : IntKind.i64.wrap ((zh : Int) * 60 + zm) = zh * 60 + zm := IntWalk.i64_in _ (by omega)
  have v3 : IntKind.i64.wrap (-((zh : Int) * 60 + zm)) = -(zh * 60 + zm) := IntWalk.i64_in _ (by omega)
  obtain ⟨e1, he1⟩ : ∃ e0, s.extract 1 3 = e0 := ⟨_, rfl⟩
  obtain ⟨e2, he2⟩ : ∃ e0, s.extract 4 6 = e0 := ⟨_, rfl⟩
  rw [he1] at HN1
  rw [he2] at HN2
  clear h6 hl6 hp a1 a2 n1 n2 hc
  go_enter Tryd.func28, Tryd.ntmps28
  go_wp2_with (first | (go_at_call 24; (with_reducible refine (HP.out _).mono ?_); rintro e w1 ⟨rfl, hX⟩; have HB1 := Lib.hid (HB0.out.trans (hX.mono HB0.out.size)); clear hX))
  have T := HB1.out
  clear HB1
  go_region_held3 (fun (W : World) => Below w.heap.size w W ∧ True) ((first | (exact ⟨by assumption, trivial⟩) | (go_split_ands; exact ⟨by assumption, trivial⟩) | (go_split_ands; exact ⟨Below.drew (by assumption), trivial⟩) | (go_split_ands; exact ⟨bth (by assumption) hX, trivial⟩))) ((go_at_call 27; first | ((with_reducible refine (HN1.out _).mono ?_); rintro e wn ⟨rfl, hX⟩) | ((with_reducible refine (HN2.out _).mono ?_); rintro e wn ⟨rfl, hX⟩)))
  rename_i hH
  have HB2 := Lib.hid hH.1
  clear hH T
  rcases show ¬ zh ≤ 23 ∨ (zh ≤ 23 ∧ ¬ zm ≤ 59) ∨ (zh ≤ 23 ∧ zm ≤ 59) by omega with q1 | ⟨q1, q2⟩ | ⟨q1, q2⟩
  · have c0 : decide ((zh : Int) ≤ 23) = false := decide_eq_false (by omega)
    have HQ : Hid (false = decide (zh ≤ 23 ∧ zm ≤ 59)) := Lib.hid (decide_eq_false (by omega)).symm
    clear q1
    go_wp2
    go_ret3
    exact ⟨to3 (by omega) HQ.out, HB2.out⟩
  · have c0 : decide ((zh : Int) ≤ 23) = true := decide_eq_true (by omega)
    have c1 : decide ((zm : Int) ≤ 59) = false := decide_eq_false (by omega)
    have HQ : Hid (false = decide (zh ≤ 23 ∧ zm ≤ 59)) := Lib.hid (decide_eq_false (by omega)).symm
    clear q1 q2
    go_wp2
    go_ret3
    exact ⟨to3 (by omega) HQ.out, HB2.out⟩
  · have c0 : decide ((zh : Int) ≤ 23) = true := decide_eq_true (by omega)
    have c1 : decide ((zm : Int) ≤ 59) = true := decide_eq_true (by omega)
    have HQ : Hid (true = decide (zh ≤ 23 ∧ zm ≤ 59)) := Lib.hid (decide_eq_true (by omega)).symm
    clear q1 q2
    go_wp2
    go_ret3
    exact ⟨to3 (by omega) HQ.out, HB2.out⟩
set_option maxRecDepth 100000 in
set_option maxHeartbeats 4000000 in
theorem roffs_m (s : ByteArray) (w : World) (zh zm : Nat) (hz : ¬ (s.data.toList = [90] ∨ s.data.toList = [122])) (hp : formL s.data.toList pP = false) (hm : formL s.data.toList pM = true) (a1 : nvl (sub s.data.toList 1 3) = zh) (a2 : nvl (sub s.data.toList 4 6) = zm) : Calls Tryd.prog 28 #[.string s] w fun e w' => e = .returned (.tuple #[.int .i64 (-((zh : Int) * 60 + zm)), .bool true, .bool (decide (zh ≤ 23 ∧ zm ≤ 59))]) ∧ Below w.heap.size w w' := by
  have h6 : s.size = 6 := form_len _ _ hm
  have n1 := form_sub hm 1 3 (by decide) (idx2 _ (by decide))
  have n2 := form_sub hm 4 6 (by decide) (idx2 _ (by decide))
  have lh : zh < 100 := by rw [← a1]; exact nvl_lt _ _ n1.1 n1.2
  have lm : zm < 100 := by rw [← a2]; exact nvl_lt _ _ n2.1 n2.2
  have HN1 := Lib.hid (fun w => rnum_at (s.extract 1 3) zh w (by rw [ex_sub, n1.1]; decide) (by rw [ex_sub]; exact n1.2) (by rw [ex_sub]; exact a1))
  have HN2 := Lib.hid (fun w => rnum_at (s.extract 4 6) zm w (by rw [ex_sub, n2.1]; decide) (by rw [ex_sub]; exact n2.2) (by rw [ex_sub]; exact a2))
  have h0 : 0 < s.size := by omega
  have hc : s[0] = 45 := by
    rcases form_at _ _ hm 0 s[0] 45 (by rw [← List.head?_eq_getElem?]; exact head_at0 s h0) rfl with ⟨q, _⟩ | ⟨_, q⟩
    · exact absurd q (by decide)
    · exact q
  have hci : ((s[0].toNat : Int) == 45) = true := by rw [hc]; rfl
  have h2 : (0 : Int) < s.size := by omega
  have h23 : (3 : Int) ≤ s.size := by omega
  have h24 : (4 : Int) ≤ s.size := by omega
  have h26 : (6 : Int) ≤ s.size := by omega
  have b1 : (s.toList == [90]) = false := by rw [beq_eq_false_iff_ne, toList_data]; exact fun e => hz (.inl e)
  have b2 : (s.toList == [122]) = false := by rw [beq_eq_false_iff_ne, toList_data]; exact fun e => hz (.inr e)
  clear hz
  have hl6 : s.data.toList.length = 6 := h6
  have h6i : ((s.size : Int) != 6) = false := by rw [bne_eq_false_iff_eq]; omega
  have HP := Lib.hid (fun w => like_any s ⟨#[43, 100, 100, 58, 100, 100]⟩ w (by decide))
  rw [show likeL s.data.toList (⟨#[43, 100, 100, 58, 100, 100]⟩ : ByteArray).data.toList = false by rw [← hp]; exact like_six _ _ _ hl6 (by decide) rfl (by decide)] at HP
  have HM := Lib.hid (fun w => like_any s ⟨#[45, 100, 100, 58, 100, 100]⟩ w (by decide))
  rw [show likeL s.data.toList (⟨#[45, 100, 100, 58, 100, 100]⟩ : ByteArray).data.toList = true by rw [← hm]; exact like_six _ _ _ hl6 (by decide) rfl (by decide)] at HM
  have HB0 : Hid (Below w.heap.size w w) := Lib.hid (Below.refl _ _)
  have v1 : IntKind.i64.wrap ((zh : Int) * 60) = zh * 60 := IntWalk.i64_in _ (by omega)
  have v2 : IntKind.i64.wrap ((zh : Int) * 60 + zm) = zh * 60 + zm := IntWalk.i64_in _ (by omega)
  have v3 : IntKind.i64.wrap (-((zh : Int) * 60 + zm)) = -(zh * 60 + zm) := IntWalk.i64_in _ (by omega)
  obtain ⟨e1, he1⟩ : ∃ e0, s.extract 1 3 = e0 := ⟨_, rfl⟩
  obtain ⟨e2, he2⟩ : ∃ e0, s.extract 4 6 = e0 := ⟨_, rfl⟩
  rw [he1] at HN1
  rw [he2] at HN2
  clear h6 hl6 hp hm a1 a2 n1 n2 hc
  go_enter Tryd.func28, Tryd.ntmps28
  go_wp2_with (first | (go_at_call 24; (with_reducible refine (HP.out _).mono ?_); rintro e w1 ⟨rfl, hX⟩; have HB1 := Lib.hid (HB0.out.trans (hX.mono HB0.out.size)); clear hX) | (go_at_call 24; (with_reducible refine (HM.out _).mono ?_); rintro e w1 ⟨rfl, hX⟩; have HB1 := Lib.hid (HB1.out.trans (hX.mono HB1.out.size)); clear hX))
  have T := HB1.out
  clear HB1
  go_region_held3 (fun (W : World) => Below w.heap.size w W ∧ True) ((first | (exact ⟨by assumption, trivial⟩) | (go_split_ands; exact ⟨by assumption, trivial⟩) | (go_split_ands; exact ⟨Below.drew (by assumption), trivial⟩) | (go_split_ands; exact ⟨bth (by assumption) hX, trivial⟩))) ((go_at_call 27; first | ((with_reducible refine (HN1.out _).mono ?_); rintro e wn ⟨rfl, hX⟩) | ((with_reducible refine (HN2.out _).mono ?_); rintro e wn ⟨rfl, hX⟩)))
  rename_i hH
  have HB2 := Lib.hid hH.1
  clear hH T
  rcases show ¬ zh ≤ 23 ∨ (zh ≤ 23 ∧ ¬ zm ≤ 59) ∨ (zh ≤ 23 ∧ zm ≤ 59) by omega with q1 | ⟨q1, q2⟩ | ⟨q1, q2⟩
  · have c0 : decide ((zh : Int) ≤ 23) = false := decide_eq_false (by omega)
    have HQ : Hid (false = decide (zh ≤ 23 ∧ zm ≤ 59)) := Lib.hid (decide_eq_false (by omega)).symm
    clear q1
    go_wp2
    go_ret3
    exact ⟨to3 (by omega) HQ.out, HB2.out⟩
  · have c0 : decide ((zh : Int) ≤ 23) = true := decide_eq_true (by omega)
    have c1 : decide ((zm : Int) ≤ 59) = false := decide_eq_false (by omega)
    have HQ : Hid (false = decide (zh ≤ 23 ∧ zm ≤ 59)) := Lib.hid (decide_eq_false (by omega)).symm
    clear q1 q2
    go_wp2
    go_ret3
    exact ⟨to3 (by omega) HQ.out, HB2.out⟩
  · have c0 : decide ((zh : Int) ≤ 23) = true := decide_eq_true (by omega)
    have c1 : decide ((zm : Int) ≤ 59) = true := decide_eq_true (by omega)
    have HQ : Hid (true = decide (zh ≤ 23 ∧ zm ≤ 59)) := Lib.hid (decide_eq_true (by omega)).symm
    clear q1 q2
    go_wp2
    go_ret3
    exact ⟨to3 (by omega) HQ.out, HB2.out⟩
theorem roffs_any (s : ByteArray) (w : World) : Calls Tryd.prog 28 #[.string s] w fun e w' => TOpost w (znpL s.data.toList) e w' := by
  by_cases hz : s.data.toList = [90] ∨ s.data.toList = [122]
  · have e : znpL s.data.toList = some (false, 0, 0) := by unfold znpL; rw [if_pos hz]
    rw [e]
    exact roffs_z s w hz
  · by_cases hp : formL s.data.toList pP = true
    · have e : znpL s.data.toList = some (true, nvl (sub s.data.toList 1 3), nvl (sub s.data.toList 4 6)) := by unfold znpL; rw [if_neg hz, if_pos hp]
      rw [e]
      exact roffs_p s w _ _ hz hp rfl rfl
    · by_cases hm : formL s.data.toList pM = true
      · have e : znpL s.data.toList = some (false, nvl (sub s.data.toList 1 3), nvl (sub s.data.toList 4 6)) := by unfold znpL; rw [if_neg hz, if_neg hp, if_pos hm]
        rw [e]
        exact roffs_m s w _ _ hz (by simpa using hp) hm rfl rfl
      · have e : znpL s.data.toList = none := by unfold znpL; rw [if_neg hz, if_neg hp, if_neg hm]
        rw [e]
        by_cases h6 : s.size = 6
        · exact roffs_b s w hz h6 (by simpa using hp) (by simpa using hm)
        · exact roffs_n s w hz h6
theorem parse_any (s : ByteArray) (w : World) (hs : s.size ≤ 9223372036854775807) : Calls Tryd.prog 12 #[.string s] w fun e w' => e = tR (paL s.data.toList) ∧ Below w.heap.size w w' := by
  have HS := fun w => split_any s w hs
  cases hsp : spL s.data.toList with
  | none =>
    rw [hsp] at HS
    have e : paL s.data.toList = (0, 0, 0, 0, 3) := by unfold paL; rw [hsp]
    rw [e]
    exact parse_0 s w (Lib.hid HS)
  | some f =>
    rw [hsp] at HS
    have ok := sp_ok hsp
    have k1 := ok.h; have k2 := ok.mi; have k3 := ok.se; have k4 := ok.na; have k5 := ok.zh; have k6 := ok.zm
    have ev : paL s.data.toList = if inR f then ((f.k : Int), dyd f, nan f, zoo f, 0) else (0, 0, 0, 0, 2) := by unfold paL; rw [hsp]
    rw [ev]
    have HD := fun w => Cal.day_any f.y f.mo f.d w
    by_cases hk : f.k = 2
    · have hki : (f.k : Int) = 2 := by omega
      by_cases hr : f.h ≤ 23 ∧ f.mi ≤ 59 ∧ f.se ≤ 59 ∧ f.zh ≤ 23 ∧ f.zm ≤ 59
      · rw [if_pos (show inR f from ⟨.inl hk, hr⟩)]
        have := parse_5 s f.k f.y f.mo f.d f.h f.mi f.se f.na f.zh f.zm f.ea w hki (Lib.hid HS) (by omega) (by omega) (by omega) (by omega) (by omega) (by omega)
        unfold tR dyd nan zoo
        rw [if_pos hk, hki]
        exact this
      · rw [if_neg (show ¬ inR f from fun h => hr h.2)]
        exact parse_3 s f.k f.y f.mo f.d f.h f.mi f.se f.na f.zh f.zm f.ea w hki (Lib.hid HS) (by omega)
    · have hki : (f.k : Int) ≠ 2 := by omega
      by_cases hE : Cal.dayE f.y f.mo f.d = 0
      · by_cases hr : f.h ≤ 23 ∧ f.mi ≤ 59 ∧ f.se ≤ 59 ∧ f.zh ≤ 23 ∧ f.zm ≤ 59
        · rw [if_pos (show inR f from ⟨.inr hE, hr⟩)]
          have := parse_4 s f.k f.y f.mo f.d f.h f.mi f.se f.na f.zh f.zm f.ea (Cal.dayN f.y f.mo f.d) (Cal.dayE f.y f.mo f.d) w hki hE (Lib.hid HS) (Lib.hid HD) (by omega) (by omega) (by omega) (by omega) (by omega) (by omega)
          unfold tR dyd nan zoo
          rw [if_neg hk]
          exact this
        · rw [if_neg (show ¬ inR f from fun h => hr h.2)]
          exact parse_2 s f.k f.y f.mo f.d f.h f.mi f.se f.na f.zh f.zm f.ea _ _ w hki hE (Lib.hid HS) (Lib.hid HD) (by omega)
      · rw [if_neg (show ¬ inR f from fun h => h.1.elim hk hE)]
        exact parse_1 s f.k f.y f.mo f.d f.h f.mi f.se f.na f.zh f.zm f.ea _ _ w hki hE (Lib.hid HS) (Lib.hid HD)
end Go.Proofs.YtkbddelacjjapaaDoor.Mom
