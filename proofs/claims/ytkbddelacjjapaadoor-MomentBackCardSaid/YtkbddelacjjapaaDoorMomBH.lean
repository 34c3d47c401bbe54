/-
  Package moment's reference: time of day and offset of any text.
-/
import Derived.Test.YtkbddelacjjapaaDoorMomBG
import Derived.Test.YtkbddelacjjapaaDoorMomBC
namespace Go.Proofs.YtkbddelacjjapaaDoor.Mom
open Go.RowKit
set_option linter.unusedVariables false
set_option linter.unusedSimpArgs false

theorem bth {w W W' : World} (h : Below w.heap.size w W) (hX : Below W.heap.size W W') : Below w.heap.size w W' := h.trans (hX.mono h.size)
theorem rnum_at (s : ByteArray) (n : Nat) (w : World) (hl : s.data.toList.length ≤ 18) (hd : ∀ c ∈ s.data.toList, dg c) (hn : nvl s.data.toList = n) : Calls Tryd.prog 27 #[.string s] w fun e w' => e = .returned (.int .i64 n) ∧ Below w.heap.size w w' := by
  refine (rnumber_any s w hl hd).mono ?_
  rintro e w' ⟨rfl, rfl⟩
  exact ⟨by rw [hn], Below.refl _ _⟩
theorem like_sub (l : List UInt8) (p q : List UInt8) (n : Nat) (hq : q = p.map wild) (hn : p.length = n) (hp : ∀ b ∈ p, b ≠ 100) : likeL l q = formL (sub l 0 n) p := by
  rw [hq, like_form p l hp, hn]
  unfold sub
  simp
theorem head_at0 (s : ByteArray) (h : 0 < s.size) : s.data.toList.head? = some (s[0]'h) := by
  rw [List.head?_eq_getElem?]
  exact List.getElem?_eq_getElem (show 0 < s.data.toList.length from h)
def TKpost (w : World) : Option (Nat × Nat × Nat × Nat × List UInt8) → Ending → World → Prop
  | none, e, w' => e = .returned (.tuple #[.int .i64 0, .string ⟨#[]⟩, .bool false, .bool false]) ∧ Below w.heap.size w w'
  | some (h, mi, se, na, r), e, w' => e = .returned (.tuple #[.int .i64 (h * 3600000000000 + mi * 60000000000 + se * 1000000000 + na), .string ⟨r.toArray⟩, .bool true, .bool (decide (h ≤ 23 ∧ mi ≤ 59 ∧ se ≤ 59))]) ∧ Below w.heap.size w w'
set_option maxRecDepth 100000 in
set_option maxHeartbeats 4000000 in
theorem rtake_b (s : ByteArray) (w : World) (hf : formL (sub s.data.toList 0 8) p8 = false) : Calls Tryd.prog 25 #[.string s] w fun e w' => e = .returned (.tuple #[.int .i64 0, .string ⟨#[]⟩, .bool false, .bool false]) ∧ Below w.heap.size w w' := by
  have HM := Lib.hid (fun w => like_any s ⟨#[100, 100, 58, 100, 100, 58, 100, 100]⟩ w (by decide))
  rw [show likeL s.data.toList (⟨#[100, 100, 58, 100, 100, 58, 100, 100]⟩ : ByteArray).data.toList = false by rw [← hf]; exact like_sub _ _ _ 8 (by decide) rfl (by decide)] at HM
  have HB0 : Hid (Below w.heap.size w w) := Lib.hid (Below.refl _ _)
  clear hf
  go_enter Tryd.func25, Tryd.ntmps25
  go_wp2_with (go_at_call 24; (with_reducible refine (HM.out _).mono ?_); rintro e w1 ⟨rfl, hX⟩; have HB1 := Lib.hid (HB0.out.trans (hX.mono HB0.out.size)); clear hX)
  (try simp only [Exit.inBlock, Exit.then])
  refine bodyPost_ret (results_tmp4 rfl _ _ _) rfl ?_
  exact ⟨rfl, HB1.out⟩
theorem tk4 {a b : Int} {r : ByteArray} {x y : Bool} (h1 : a = b) (h2 : x = y) : Ending.returned (.tuple #[.int .i64 a, .string r, .bool true, .bool x]) = .returned (.tuple #[.int .i64 b, .string r, .bool true, .bool y]) := by rw [h1, h2]
set_option maxRecDepth 100000 in
set_option maxHeartbeats 4000000 in
theorem rtake_c (s : ByteArray) (w : World) (h mi se : Nat) (hs : 8 ≤ s.size) (hf : formL (sub s.data.toList 0 8) p8 = true) (a1 : nvl (sub s.data.toList 0 2) = h) (a2 : nvl (sub s.data.toList 3 5) = mi) (a3 : nvl (sub s.data.toList 6 8) = se) (hp : (s.data.toList.drop 8).head? ≠ some 46) : Calls Tryd.prog 25 #[.string s] w fun e w' => e = .returned (.tuple #[.int .i64 (h * 3600000000000 + mi * 60000000000 + se * 1000000000 + ((0 : Nat) : Int)), .string (s.extract 8 s.size), .bool true, .bool (decide (h ≤ 23 ∧ mi ≤ 59 ∧ se ≤ 59))]) ∧ Below w.heap.size w w' := by
  have n1 := sub_num hf 0 2 (by decide) (by decide) (idx2 _ (by decide))
  have n2 := sub_num hf 3 5 (by decide) (by decide) (idx2 _ (by decide))
  have n3 := sub_num hf 6 8 (by decide) (by decide) (idx2 _ (by decide))
  rw [a1] at n1
  rw [a2] at n2
  rw [a3] at n3
  have HN1 := Lib.hid (fun w => rnum_at (s.extract 0 2) h w (by rw [ex_sub, n1.1]; decide) (by rw [ex_sub]; exact n1.2.1) (by rw [ex_sub]; exact a1))
  have HN2 := Lib.hid (fun w => rnum_at (s.extract 3 5) mi w (by rw [ex_sub, n2.1]; decide) (by rw [ex_sub]; exact n2.2.1) (by rw [ex_sub]; exact a2))
  have HN3 := Lib.hid (fun w => rnum_at (s.extract 6 8) se w (by rw [ex_sub, n3.1]; decide) (by rw [ex_sub]; exact n3.2.1) (by rw [ex_sub]; exact a3))
  have lh : h ≤ 99 := by have := n1.2.2; omega
  have lm : mi ≤ 99 := by have := n2.2.2; omega
  have ls : se ≤ 99 := by have := n3.2.2; omega
  have h1 : ¬ (s.size : Int) < 8 := by omega
  have h2 : (8 : Int) ≤ s.size := by omega
  have h22 : (2 : Int) ≤ s.size := by omega
  have h25 : (5 : Int) ≤ s.size := by omega
  have HM := Lib.hid (fun w => like_any s ⟨#[100, 100, 58, 100, 100, 58, 100, 100]⟩ w (by decide))
  rw [show likeL s.data.toList (⟨#[100, 100, 58, 100, 100, 58, 100, 100]⟩ : ByteArray).data.toList = true by rw [← hf]; exact like_sub _ _ _ 8 (by decide) rfl (by decide)] at HM
  have HB0 : Hid (Below w.heap.size w w) := Lib.hid (Below.refl _ _)
  obtain ⟨e1, he1⟩ : ∃ e0, s.extract 0 2 = e0 := ⟨_, rfl⟩
  obtain ⟨e2, he2⟩ : ∃ e0, s.extract 3 5 = e0 := ⟨_, rfl⟩
  obtain ⟨e3, he3⟩ : ∃ e0, s.extract 6 8 = e0 := ⟨_, rfl⟩
  rw [he1] at HN1
  rw [he2] at HN2
  rw [he3] at HN3
  obtain ⟨s1, hs1⟩ : ∃ e0, s.extract 8 s.size = e0 := ⟨_, rfl⟩
  rw [hs1]
  have v1 : IntKind.i64.wrap ((h : Int) * 60) = h * 60 := IntWalk.i64_in _ (by omega)
  have v2 : IntKind.i64.wrap ((h : Int) * 60 + mi) = h * 60 + mi := IntWalk.i64_in _ (by omega)
  have v3 : IntKind.i64.wrap (((h : Int) * 60 + mi) * 60) = (h * 60 + mi) * 60 := IntWalk.i64_in _ (by omega)
  have v4 : IntKind.i64.wrap (((h : Int) * 60 + mi) * 60 + se) = (h * 60 + mi) * 60 + se := IntWalk.i64_in _ (by omega)
  have v5 : IntKind.i64.wrap ((((h : Int) * 60 + mi) * 60 + se) * 1000000000) = ((h * 60 + mi) * 60 + se) * 1000000000 := IntWalk.i64_in _ (by omega)
  have v6 : IntKind.i64.wrap ((((h : Int) * 60 + mi) * 60 + se) * 1000000000 + 0) = ((h * 60 + mi) * 60 + se) * 1000000000 + 0 := IntWalk.i64_in _ (by omega)
  have HW : Hid (¬ (0 : Int) < s1.size ∨ ((0 : Int) < s1.size ∧ ∀ hh : 0 < s1.size, ((s1[0].toNat : Int) == 46) = false)) := Lib.hid (by
    by_cases hz : 0 < s1.size
    · refine .inr ⟨by omega, fun hh => ?_⟩
      rw [beq_eq_false_iff_ne]
      intro hq
      apply hp
      rw [← ex_end, hs1]
      have := head_at0 s1 hz
      rw [this]
      congr 1
      exact UInt8.toNat_inj.1 (by have : (46 : UInt8).toNat = 46 := rfl; omega)
    · exact .inl (by omega))
  clear hf a1 a2 a3 n1 n2 n3 hp
  go_enter Tryd.func25, Tryd.ntmps25
  go_wp2_with (go_at_call 24; (with_reducible refine (HM.out _).mono ?_); rintro e w1 ⟨rfl, hX⟩; have HB1 := Lib.hid (HB0.out.trans (hX.mono HB0.out.size)); clear hX)
  have T := HB1.out
  clear HB1
  go_region_held3 (fun (W : World) => Below w.heap.size w W ∧ True) ((first | (exact ⟨by assumption, trivial⟩) | (go_split_ands; exact ⟨by assumption, trivial⟩) | (go_split_ands; exact ⟨Below.drew (by assumption), trivial⟩) | (go_split_ands; exact ⟨bth (by assumption) hX, trivial⟩))) ((go_at_call 27; first | ((with_reducible refine (HN1.out _).mono ?_); rintro e wn ⟨rfl, hX⟩) | ((with_reducible refine (HN2.out _).mono ?_); rintro e wn ⟨rfl, hX⟩) | ((with_reducible refine (HN3.out _).mono ?_); rintro e wn ⟨rfl, hX⟩)))
  rename_i hH
  have HB2 := Lib.hid hH.1
  clear hH T
  rcases HW.out with z0 | ⟨z0, z1⟩
  · clear HW
    go_upto_region 14 with fail
    rcases show ¬ h ≤ 23 ∨ (h ≤ 23 ∧ ¬ mi ≤ 59) ∨ (h ≤ 23 ∧ mi ≤ 59 ∧ ¬ se ≤ 59) ∨ (h ≤ 23 ∧ mi ≤ 59 ∧ se ≤ 59) by omega with q1 | ⟨q1, q2⟩ | ⟨q1, q2, q3⟩ | ⟨q1, q2, q3⟩
    · have b0 : decide ((h : Int) ≤ 23) = false := decide_eq_false (by omega)
      have HQ : Hid (false = decide (h ≤ 23 ∧ mi ≤ 59 ∧ se ≤ 59)) := Lib.hid (decide_eq_false (by omega)).symm
      clear q1
      go_wp2
      (try simp only [Exit.inBlock, Exit.then])
      refine bodyPost_ret (results_tmp4 rfl _ _ _) rfl ?_
      exact ⟨tk4 (by omega) HQ.out, HB2.out⟩
    · have b0 : decide ((h : Int) ≤ 23) = true := decide_eq_true (by omega)
      have b1 : decide ((mi : Int) ≤ 59) = false := decide_eq_false (by omega)
      have HQ : Hid (false = decide (h ≤ 23 ∧ mi ≤ 59 ∧ se ≤ 59)) := Lib.hid (decide_eq_false (by omega)).symm
      clear q1 q2
      go_wp2
      (try simp only [Exit.inBlock, Exit.then])
      refine bodyPost_ret (results_tmp4 rfl _ _ _) rfl ?_
      exact ⟨tk4 (by omega) HQ.out, HB2.out⟩
    · have b0 : decide ((h : Int) ≤ 23) = true := decide_eq_true (by omega)
      have b1 : decide ((mi : Int) ≤ 59) = true := decide_eq_true (by omega)
      have b2 : decide ((se : Int) ≤ 59) = false := decide_eq_false (by omega)
      have HQ : Hid (false = decide (h ≤ 23 ∧ mi ≤ 59 ∧ se ≤ 59)) := Lib.hid (decide_eq_false (by omega)).symm
      clear q1 q2 q3
      go_wp2
      (try simp only [Exit.inBlock, Exit.then])
      refine bodyPost_ret (results_tmp4 rfl _ _ _) rfl ?_
      exact ⟨tk4 (by omega) HQ.out, HB2.out⟩
    · have b0 : decide ((h : Int) ≤ 23) = true := decide_eq_true (by omega)
      have b1 : decide ((mi : Int) ≤ 59) = true := decide_eq_true (by omega)
      have b2 : decide ((se : Int) ≤ 59) = true := decide_eq_true (by omega)
      have HQ : Hid (true = decide (h ≤ 23 ∧ mi ≤ 59 ∧ se ≤ 59)) := Lib.hid (decide_eq_true (by omega)).symm
      clear q1 q2 q3
      go_wp2
      (try simp only [Exit.inBlock, Exit.then])
      refine bodyPost_ret (results_tmp4 rfl _ _ _) rfl ?_
      exact ⟨tk4 (by omega) HQ.out, HB2.out⟩
  · have z2 : 0 < s1.size := by omega
    have z3 := z1 z2
    clear HW z1
    go_upto_region 14 with fail
    rcases show ¬ h ≤ 23 ∨ (h ≤ 23 ∧ ¬ mi ≤ 59) ∨ (h ≤ 23 ∧ mi ≤ 59 ∧ ¬ se ≤ 59) ∨ (h ≤ 23 ∧ mi ≤ 59 ∧ se ≤ 59) by omega with q1 | ⟨q1, q2⟩ | ⟨q1, q2, q3⟩ | ⟨q1, q2, q3⟩
    · have b0 : decide ((h : Int) ≤ 23) = false := decide_eq_false (by omega)
      have HQ : Hid (false = decide (h ≤ 23 ∧ mi ≤ 59 ∧ se ≤ 59)) := Lib.hid (decide_eq_false (by omega)).symm
      clear q1
      go_wp2
      (try simp only [Exit.inBlock, Exit.then])
      refine bodyPost_ret (results_tmp4 rfl _ _ _) rfl ?_
      exact ⟨tk4 (by omega) HQ.out, HB2.out⟩
    · have b0 : decide ((h : Int) ≤ 23) = true := decide_eq_true (by omega)
      have b1 : decide ((mi : Int) ≤ 59) = false := decide_eq_false (by omega)
      have HQ : Hid (false = decide (h ≤ 23 ∧ mi ≤ 59 ∧ se ≤ 59)) := Lib.hid (decide_eq_false (by omega)).symm
      clear q1 q2
      go_wp2
      (try simp only [Exit.inBlock, Exit.then])
      refine bodyPost_ret (results_tmp4 rfl _ _ _) rfl ?_
      exact ⟨tk4 (by omega) HQ.out, HB2.out⟩
    · have b0 : decide ((h : Int) ≤ 23) = true := decide_eq_true (by omega)
      have b1 : decide ((mi : Int) ≤ 59) = true := decide_eq_true (by omega)
      have b2 : decide ((se : Int) ≤ 59) = false := decide_eq_false (by omega)
      have HQ : Hid (false = decide (h ≤ 23 ∧ mi ≤ 59 ∧ se ≤ 59)) := Lib.hid (decide_eq_false (by omega)).symm
      clear q1 q2 q3
      go_wp2
      (try simp only [Exit.inBlock, Exit.then])
      refine bodyPost_ret (results_tmp4 rfl _ _ _) rfl ?_
      exact ⟨tk4 (by omega) HQ.out, HB2.out⟩
    · have b0 : decide ((h : Int) ≤ 23) = true := decide_eq_true (by omega)
      have b1 : decide ((mi : Int) ≤ 59) = true := decide_eq_true (by omega)
      have b2 : decide ((se : Int) ≤ 59) = true := decide_eq_true (by omega)
      have HQ : Hid (true = decide (h ≤ 23 ∧ mi ≤ 59 ∧ se ≤ 59)) := Lib.hid (decide_eq_true (by omega)).symm
      clear q1 q2 q3
      go_wp2
      (try simp only [Exit.inBlock, Exit.then])
      refine bodyPost_ret (results_tmp4 rfl _ _ _) rfl ?_
      exact ⟨tk4 (by omega) HQ.out, HB2.out⟩
theorem dcl_cond : ∀ (l : List UInt8), (∀ j (hj : j < dcl l) (hh : j < l.length), 48 ≤ (l[j]'hh).toNat ∧ (l[j]'hh).toNat ≤ 57) ∧ (∀ hh : dcl l < l.length, ¬ (48 ≤ (l[dcl l]'hh).toNat ∧ (l[dcl l]'hh).toNat ≤ 57)) := by
  intro l
  induction l with
  | nil => exact ⟨fun j hj hh => absurd hh (by simp), fun hh => absurd hh (by simp)⟩
  | cons a t ih =>
    by_cases ha : isDg a = true
    · have e : dcl (a :: t) = dcl t + 1 := by rw [dcl_cons, if_pos ha]
      refine ⟨fun j hj hh => ?_, fun hh => ?_⟩
      · cases j with
        | zero => exact isDg_iff.1 ha
        | succ j => exact ih.1 j (by omega) (by simpa using hh)
      · have h2 := ih.2 (by rw [e] at hh; simpa using hh)
        simp only [e, List.getElem_cons_succ]
        exact h2
    · have e : dcl (a :: t) = 0 := by rw [dcl_cons, if_neg ha]
      refine ⟨fun j hj hh => absurd hj (by omega), fun hh => ?_⟩
      simp only [e, List.getElem_cons_zero]
      exact fun h => ha (isDg_iff.2 h)
theorem dcl_run {s1 : ByteArray} {n : Nat} (z0 : 0 < s1.size) (hn : dcl (s1.data.toList.drop 1) = n) : 1 + n ≤ s1.size ∧ (∀ j, j < n → ∀ hh : 1 + j < s1.size, 48 ≤ (s1[1 + j]'hh).toNat ∧ (s1[1 + j]'hh).toNat ≤ 57) ∧ (∀ hh : 1 + n < s1.size, ¬ (48 ≤ (s1[1 + n]'hh).toNat ∧ (s1[1 + n]'hh).toNat ≤ 57)) := by
  have hl : s1.data.toList.length = s1.size := rfl
  have h1 := dcl_le (s1.data.toList.drop 1)
  obtain ⟨h2, h3⟩ := dcl_cond (s1.data.toList.drop 1)
  rw [List.length_drop] at h1
  subst hn
  refine ⟨by omega, fun j hj hh => ?_, fun hh => ?_⟩
  · have := h2 j hj (by rw [List.length_drop]; omega)
    rw [List.getElem_drop] at this
    exact this
  · have := h3 (by rw [List.length_drop]; omega)
    rw [List.getElem_drop] at this
    exact this
set_option maxRecDepth 100000 in
set_option maxHeartbeats 4000000 in
theorem rtake_d (s : ByteArray) (w : World) (h mi se : Nat) (hs : 8 ≤ s.size) (hf : formL (sub s.data.toList 0 8) p8 = true) (a1 : nvl (sub s.data.toList 0 2) = h) (a2 : nvl (sub s.data.toList 3 5) = mi) (a3 : nvl (sub s.data.toList 6 8) = se) (hsx : s.size ≤ 9223372036854775807) (hp : (s.data.toList.drop 8).head? = some 46) (n : Nat) (hn : dcl (s.data.toList.drop 9) = n) (hbad : n < 1 ∨ 9 < n) : Calls Tryd.prog 25 #[.string s] w fun e w' => e = .returned (.tuple #[.int .i64 0, .string ⟨#[]⟩, .bool false, .bool false]) ∧ Below w.heap.size w w' := by
  have n1 := sub_num hf 0 2 (by decide) (by decide) (idx2 _ (by decide))
  have n2 := sub_num hf 3 5 (by decide) (by decide) (idx2 _ (by decide))
  have n3 := sub_num hf 6 8 (by decide) (by decide) (idx2 _ (by decide))
  rw [a1] at n1
  rw [a2] at n2
  rw [a3] at n3
  have HN1 := Lib.hid (fun w => rnum_at (s.extract 0 2) h w (by rw [ex_sub, n1.1]; decide) (by rw [ex_sub]; exact n1.2.1) (by rw [ex_sub]; exact a1))
  have HN2 := Lib.hid (fun w => rnum_at (s.extract 3 5) mi w (by rw [ex_sub, n2.1]; decide) (by rw [ex_sub]; exact n2.2.1) (by rw [ex_sub]; exact a2))
  have HN3 := Lib.hid (fun w => rnum_at (s.extract 6 8) se w (by rw [ex_sub, n3.1]; decide) (by rw [ex_sub]; exact n3.2.1) (by rw [ex_sub]; exact a3))
  have lh : h ≤ 99 := by have := n1.2.2; omega
  have lm : mi ≤ 99 := by have := n2.2.2; omega
  have ls : se ≤ 99 := by have := n3.2.2; omega
  have h1 : ¬ (s.size : Int) < 8 := by omega
  have h2 : (8 : Int) ≤ s.size := by omega
  have h22 : (2 : Int) ≤ s.size := by omega
  have h25 : (5 : Int) ≤ s.size := by omega
  have HM := Lib.hid (fun w => like_any s ⟨#[100, 100, 58, 100, 100, 58, 100, 100]⟩ w (by decide))
  rw [show likeL s.data.toList (⟨#[100, 100, 58, 100, 100, 58, 100, 100]⟩ : ByteArray).data.toList = true by rw [← hf]; exact like_sub _ _ _ 8 (by decide) rfl (by decide)] at HM
  have HB0 : Hid (Below w.heap.size w w) := Lib.hid (Below.refl _ _)
  obtain ⟨e1, he1⟩ : ∃ e0, s.extract 0 2 = e0 := ⟨_, rfl⟩
  obtain ⟨e2, he2⟩ : ∃ e0, s.extract 3 5 = e0 := ⟨_, rfl⟩
  obtain ⟨e3, he3⟩ : ∃ e0, s.extract 6 8 = e0 := ⟨_, rfl⟩
  rw [he1] at HN1
  rw [he2] at HN2
  rw [he3] at HN3
  obtain ⟨s1, hs1⟩ : ∃ e0, s.extract 8 s.size = e0 := ⟨_, rfl⟩
  have hsx2 : s1.size ≤ 9223372036854775807 := by rw [← hs1, ByteArray.size_extract]; omega
  replace hsx := hsx2
  clear hsx2
  have hE : s1.data.toList = s.data.toList.drop 8 := by rw [← hs1, ex_end]
  have z0 : 0 < s1.size := by
    show 0 < s1.data.toList.length
    rw [hE]
    cases hc : s.data.toList.drop 8 with
    | nil => rw [hc] at hp; cases hp
    | cons a t => simp
  have z1 : (0 : Int) < s1.size := by omega
  have z2 : ((s1[0].toNat : Int) == 46) = true := by
    have h3 := head_at0 s1 z0
    rw [hE, hp] at h3
    have h4 : s1[0] = 46 := (Option.some.inj h3).symm
    rw [h4]; rfl
  have HT : Hid (1 + n ≤ s1.size ∧ (∀ j, j < n → ∀ hh : 1 + j < s1.size, 48 ≤ (s1[1 + j]'hh).toNat ∧ (s1[1 + j]'hh).toNat ≤ 57) ∧ (∀ hh : 1 + n < s1.size, ¬ (48 ≤ (s1[1 + n]'hh).toNat ∧ (s1[1 + n]'hh).toNat ≤ 57))) := Lib.hid (dcl_run z0 (by rw [hE, List.drop_drop]; exact hn))
  have HZ1 := Lib.hid hsx
  have HBAD := Lib.hid hbad
  clear hf a1 a2 a3 n1 n2 n3 hp hn hE hbad hsx
  go_enter Tryd.func25, Tryd.ntmps25
  go_wp2_with (go_at_call 24; (with_reducible refine (HM.out _).mono ?_); rintro e w1 ⟨rfl, hX⟩; have HB1 := Lib.hid (HB0.out.trans (hX.mono HB0.out.size)); clear hX)
  have T := HB1.out
  clear HB1
  go_region_held3 (fun (W : World) => Below w.heap.size w W ∧ True) ((first | (exact ⟨by assumption, trivial⟩) | (go_split_ands; exact ⟨by assumption, trivial⟩) | (go_split_ands; exact ⟨Below.drew (by assumption), trivial⟩) | (go_split_ands; exact ⟨bth (by assumption) hX, trivial⟩))) ((go_at_call 27; first | ((with_reducible refine (HN1.out _).mono ?_); rintro e wn ⟨rfl, hX⟩) | ((with_reducible refine (HN2.out _).mono ?_); rintro e wn ⟨rfl, hX⟩) | ((with_reducible refine (HN3.out _).mono ?_); rintro e wn ⟨rfl, hX⟩)))
  rename_i hH
  have HB2 := Lib.hid hH.1
  clear hH T
  go_wp2
  go_loopw [10] (fun i wr => ∃ j : Nat, j ≤ n ∧ i = .int .i64 (1 + j : Nat) ∧ Below w.heap.size w wr) (fun i _ => n + 2 - (intOf i).toNat)
  case atStart => exact ⟨0, by omega, rfl, HB2.out⟩
  case round =>
    obtain ⟨j, hj, rfl, hbw⟩ := hrel
    have HBW := Lib.hid hbw
    clear hbw
    by_cases hlt : j < n
    · have hk : 1 + j < s1.size := by have := HT.out.1; omega
      have hki : ((1 + j : Nat) : Int) < s1.size := by omega
      have hq := HT.out.2.1 j hlt hk
      have c1 : decide ((48 : Int) ≤ ((s1[1 + j]'hk).toNat : Int)) = true := decide_eq_true (by omega)
      have c2 : decide (((s1[1 + j]'hk).toNat : Int) ≤ 57) = true := decide_eq_true (by omega)
      have c3 : IntKind.i64.wrap (((1 + j : Nat) : Int) + 1) = ((1 + (j + 1) : Nat) : Int) := by rw [show ((1 + j : Nat) : Int) + 1 = ((1 + (j + 1) : Nat) : Int) by omega]; exact IntWalk.i64_in _ (by have := HZ1.out; omega)
      obtain ⟨x, hx⟩ : ∃ x : Nat, 1 + j = x := ⟨_, rfl⟩
      have hx2 : 1 + (j + 1) = x + 1 := by omega
      rw [hx2] at c3
      simp only [hx] at hk hki c1 c2 c3 ⊢
      clear hq
      go_wp2
      exact ⟨⟨j + 1, by omega, by rw [hx2]; exact congrArg _ (by omega), HBW.out⟩, by simp [intOf] <;> omega⟩
    · obtain rfl : j = n := by omega
      obtain ⟨x, hx⟩ : ∃ x : Nat, 1 + j = x := ⟨_, rfl⟩
      have HX := Lib.hid hx
      have HE : Hid (¬ (x : Int) < s1.size ∨ ∃ hk : x < s1.size, (decide ((48 : Int) ≤ ((s1[x]'hk).toNat : Int)) = false ∨ (decide ((48 : Int) ≤ ((s1[x]'hk).toNat : Int)) = true ∧ decide (((s1[x]'hk).toNat : Int) ≤ 57) = false))) := Lib.hid (by
        by_cases hk : x < s1.size
        · have h3 := HT.out.2.2 (by omega)
          simp only [hx] at h3
          refine .inr ⟨hk, ?_⟩
          by_cases h4 : 48 ≤ (s1[x]'hk).toNat
          · exact .inr ⟨decide_eq_true (by omega), decide_eq_false (by omega)⟩
          · exact .inl (decide_eq_false (by omega))
        · exact .inl (by omega))
      simp only [hx]
      clear hlt
      rcases HBAD.out with hb | hb
      · have g1 : decide ((x : Int) < 2) = true := decide_eq_true (by have := HX.out; omega)
        clear hb
        rcases HE.out with y0 | ⟨y0, y1 | ⟨y1, y2⟩⟩
        · clear HE hx
          go_wp2
          (try simp only [Exit.inBlock, Exit.then])
          refine bodyPost_ret (results_tmp4 rfl _ _ _) rfl ?_
          exact ⟨rfl, HBW.out⟩
        · have y3 : (x : Int) < s1.size := by omega
          clear HE hx
          go_wp2
          (try simp only [Exit.inBlock, Exit.then])
          refine bodyPost_ret (results_tmp4 rfl _ _ _) rfl ?_
          exact ⟨rfl, HBW.out⟩
        · have y3 : (x : Int) < s1.size := by omega
          clear HE hx
          go_wp2
          (try simp only [Exit.inBlock, Exit.then])
          refine bodyPost_ret (results_tmp4 rfl _ _ _) rfl ?_
          exact ⟨rfl, HBW.out⟩
      · have g1 : decide ((x : Int) < 2) = false := decide_eq_false (by have := HX.out; omega)
        have g2 : decide ((10 : Int) < x) = true := decide_eq_true (by have := HX.out; omega)
        clear hb
        rcases HE.out with y0 | ⟨y0, y1 | ⟨y1, y2⟩⟩
        · clear HE hx
          go_wp2
          (try simp only [Exit.inBlock, Exit.then])
          refine bodyPost_ret (results_tmp4 rfl _ _ _) rfl ?_
          exact ⟨rfl, HBW.out⟩
        · have y3 : (x : Int) < s1.size := by omega
          clear HE hx
          go_wp2
          (try simp only [Exit.inBlock, Exit.then])
          refine bodyPost_ret (results_tmp4 rfl _ _ _) rfl ?_
          exact ⟨rfl, HBW.out⟩
        · have y3 : (x : Int) < s1.size := by omega
          clear HE hx
          go_wp2
          (try simp only [Exit.inBlock, Exit.then])
          refine bodyPost_ret (results_tmp4 rfl _ _ _) rfl ?_
          exact ⟨rfl, HBW.out⟩
theorem take9 {l : List UInt8} {n : Nat} (h : n ≤ l.length) (h9 : n ≤ 9) : (l.take n ++ List.replicate 9 48).take 9 = l.take n ++ List.replicate (9 - n) 48 := by
  rw [List.take_append, List.take_of_length_le (by rw [List.length_take]; omega), List.length_take, Nat.min_eq_left h, List.take_replicate]
  congr 2
  omega
set_option maxRecDepth 100000 in
set_option maxHeartbeats 4000000 in
theorem rtake_e (s : ByteArray) (w : World) (h mi se : Nat) (hs : 8 ≤ s.size) (hf : formL (sub s.data.toList 0 8) p8 = true) (a1 : nvl (sub s.data.toList 0 2) = h) (a2 : nvl (sub s.data.toList 3 5) = mi) (a3 : nvl (sub s.data.toList 6 8) = se) (hsx : s.size ≤ 9223372036854775807) (hp : (s.data.toList.drop 8).head? = some 46) (n : Nat) (hn : dcl (s.data.toList.drop 9) = n) (hn1 : 1 ≤ n) (hn9 : n ≤ 9) (na : Nat) (a4 : nvl ((s.data.toList.drop 9).take n ++ List.replicate (9 - n) 48) = na) : Calls Tryd.prog 25 #[.string s] w fun e w' => e = .returned (.tuple #[.int .i64 (h * 3600000000000 + mi * 60000000000 + se * 1000000000 + na), .string ⟨((s.data.toList.drop 9).drop n).toArray⟩, .bool true, .bool (decide (h ≤ 23 ∧ mi ≤ 59 ∧ se ≤ 59))]) ∧ Below w.heap.size w w' := by
  have n1 := sub_num hf 0 2 (by decide) (by decide) (idx2 _ (by decide))
  have n2 := sub_num hf 3 5 (by decide) (by decide) (idx2 _ (by decide))
  have n3 := sub_num hf 6 8 (by decide) (by decide) (idx2 _ (by decide))
  rw [a1] at n1
  rw [a2] at n2
  rw [a3] at n3
  have HN1 := Lib.hid (fun w => rnum_at (s.extract 0 2) h w (by rw [ex_sub, n1.1]; decide) (by rw [ex_sub]; exact n1.2.1) (by rw [ex_sub]; exact a1))
  have HN2 := Lib.hid (fun w => rnum_at (s.extract 3 5) mi w (by rw [ex_sub, n2.1]; decide) (by rw [ex_sub]; exact n2.2.1) (by rw [ex_sub]; exact a2))
  have HN3 := Lib.hid (fun w => rnum_at (s.extract 6 8) se w (by rw [ex_sub, n3.1]; decide) (by rw [ex_sub]; exact n3.2.1) (by rw [ex_sub]; exact a3))
  have lh : h ≤ 99 := by have := n1.2.2; omega
  have lm : mi ≤ 99 := by have := n2.2.2; omega
  have ls : se ≤ 99 := by have := n3.2.2; omega
  have h1 : ¬ (s.size : Int) < 8 := by omega
  have h2 : (8 : Int) ≤ s.size := by omega
  have h22 : (2 : Int) ≤ s.size := by omega
  have h25 : (5 : Int) ≤ s.size := by omega
  have HM := Lib.hid (fun w => like_any s ⟨#[100, 100, 58, 100, 100, 58, 100, 100]⟩ w (by decide))
  rw [show likeL s.data.toList (⟨#[100, 100, 58, 100, 100, 58, 100, 100]⟩ : ByteArray).data.toList = true by rw [← hf]; exact like_sub _ _ _ 8 (by decide) rfl (by decide)] at HM
  have HB0 : Hid (Below w.heap.size w w) := Lib.hid (Below.refl _ _)
  obtain ⟨e1, he1⟩ : ∃ e0, s.extract 0 2 = e0 := ⟨_, rfl⟩
  obtain ⟨e2, he2⟩ : ∃ e0, s.extract 3 5 = e0 := ⟨_, rfl⟩
  obtain ⟨e3, he3⟩ : ∃ e0, s.extract 6 8 = e0 := ⟨_, rfl⟩
  rw [he1] at HN1
  rw [he2] at HN2
  rw [he3] at HN3
  obtain ⟨s1, hs1⟩ : ∃ e0, s.extract 8 s.size = e0 := ⟨_, rfl⟩
  have hsx2 : s1.size ≤ 9223372036854775807 := by rw [← hs1, ByteArray.size_extract]; omega
  replace hsx := hsx2
  clear hsx2
  have hE : s1.data.toList = s.data.toList.drop 8 := by rw [← hs1, ex_end]
  have z0 : 0 < s1.size := by
    show 0 < s1.data.toList.length
    rw [hE]
    cases hc : s.data.toList.drop 8 with
    | nil => rw [hc] at hp; cases hp
    | cons a t => simp
  have z1 : (0 : Int) < s1.size := by omega
  have z2 : ((s1[0].toNat : Int) == 46) = true := by
    have h3 := head_at0 s1 z0
    rw [hE, hp] at h3
    have h4 : s1[0] = 46 := (Option.some.inj h3).symm
    rw [h4]; rfl
  have HT : Hid (1 + n ≤ s1.size ∧ (∀ j, j < n → ∀ hh : 1 + j < s1.size, 48 ≤ (s1[1 + j]'hh).toNat ∧ (s1[1 + j]'hh).toNat ≤ 57) ∧ (∀ hh : 1 + n < s1.size, ¬ (48 ≤ (s1[1 + n]'hh).toNat ∧ (s1[1 + n]'hh).toNat ≤ 57))) := Lib.hid (dcl_run z0 (by rw [hE, List.drop_drop]; exact hn))
  have HZ1 := Lib.hid hsx
  have hE9 : s1.data.toList.drop 1 = s.data.toList.drop 9 := by rw [hE, List.drop_drop]
  have hLn : n ≤ (s1.data.toList.drop 1).length := by rw [hE9, ← hn]; exact dcl_le _
  have fd := frac_dg (s.data.toList.drop 9) (by omega)
  rw [hn, ← hE9] at fd
  rw [← hE9] at a4 ⊢
  have lna : na < 1000000000 := by rw [← a4]; exact nvl_lt _ _ fd.1 fd.2
  obtain ⟨u, hU⟩ : ∃ u, s1.extract 1 (1 + n) = u := ⟨_, rfl⟩
  have hul : u.data.toList = (s1.data.toList.drop 1).take n := by
    rw [← hU, ex_sub]; unfold sub; rw [show 1 + n - 1 = n by omega]
  have hus : u.size = n := by
    show u.data.toList.length = n
    rw [hul, List.length_take]; omega
  have hQ : ((u ++ ⟨#[48, 48, 48, 48, 48, 48, 48, 48, 48]⟩).extract 0 9).data.toList = (s1.data.toList.drop 1).take n ++ List.replicate (9 - n) 48 := by
    rw [ex_sub, ls_app, hul]
    unfold sub
    rw [List.drop_zero]
    exact take9 hLn hn9
  obtain ⟨v, hv⟩ : ∃ v, (u ++ ⟨#[48, 48, 48, 48, 48, 48, 48, 48, 48]⟩).extract 0 9 = v := ⟨_, rfl⟩
  rw [hv] at hQ
  have HN4 := Lib.hid (fun w => rnum_at v na w (by rw [hQ, fd.1]; decide) (by rw [hQ]; exact fd.2) (by rw [hQ]; exact a4))
  have hRR : s1.extract (1 + n) s1.size = ⟨((s1.data.toList.drop 1).drop n).toArray⟩ := by rw [ex_tail, List.drop_drop]
  obtain ⟨r, hr⟩ : ∃ r, s1.extract (1 + n) s1.size = r := ⟨_, rfl⟩
  rw [← hRR, hr]
  have HR := Lib.hid hr
  have hz9 : (⟨#[48, 48, 48, 48, 48, 48, 48, 48, 48]⟩ : ByteArray).size = 9 := rfl
  have hzu : ¬ 9223372036854775807 < u.size + 9 := by omega
  have hzu2 : u.size + 9 ≤ 9223372036854775807 := by omega
  have hzi : (9 : Int) ≤ ((u ++ ⟨#[48, 48, 48, 48, 48, 48, 48, 48, 48]⟩).size : Int) := by rw [sz_app]; omega
  have hzi2 : (9 : Int) ≤ (u.size : Int) + 9 := by omega
  have v1 : IntKind.i64.wrap ((h : Int) * 60) = h * 60 := IntWalk.i64_in _ (by omega)
  have v2 : IntKind.i64.wrap ((h : Int) * 60 + mi) = h * 60 + mi := IntWalk.i64_in _ (by omega)
  have v3 : IntKind.i64.wrap (((h : Int) * 60 + mi) * 60) = (h * 60 + mi) * 60 := IntWalk.i64_in _ (by omega)
  have v4 : IntKind.i64.wrap (((h : Int) * 60 + mi) * 60 + se) = (h * 60 + mi) * 60 + se := IntWalk.i64_in _ (by omega)
  have v5 : IntKind.i64.wrap ((((h : Int) * 60 + mi) * 60 + se) * 1000000000) = ((h * 60 + mi) * 60 + se) * 1000000000 := IntWalk.i64_in _ (by omega)
  have v6 : IntKind.i64.wrap ((((h : Int) * 60 + mi) * 60 + se) * 1000000000 + na) = ((h * 60 + mi) * 60 + se) * 1000000000 + na := IntWalk.i64_in _ (by omega)
  clear hf a1 a2 a3 a4 n1 n2 n3 hp hn hE hE9 hLn fd hul hQ hRR hr hsx
  go_enter Tryd.func25, Tryd.ntmps25
  go_wp2_with (go_at_call 24; (with_reducible refine (HM.out _).mono ?_); rintro e w1 ⟨rfl, hX⟩; have HB1 := Lib.hid (HB0.out.trans (hX.mono HB0.out.size)); clear hX)
  have T := HB1.out
  clear HB1
  go_region_held3 (fun (W : World) => Below w.heap.size w W ∧ True) ((first | (exact ⟨by assumption, trivial⟩) | (go_split_ands; exact ⟨by assumption, trivial⟩) | (go_split_ands; exact ⟨Below.drew (by assumption), trivial⟩) | (go_split_ands; exact ⟨bth (by assumption) hX, trivial⟩))) ((go_at_call 27; first | ((with_reducible refine (HN1.out _).mono ?_); rintro e wn ⟨rfl, hX⟩) | ((with_reducible refine (HN2.out _).mono ?_); rintro e wn ⟨rfl, hX⟩) | ((with_reducible refine (HN3.out _).mono ?_); rintro e wn ⟨rfl, hX⟩)))
  rename_i hH
  have HB2 := Lib.hid hH.1
  clear hH T
  go_wp2
  go_loopw [10] (fun i wr => ∃ j : Nat, j ≤ n ∧ i = .int .i64 (1 + j : Nat) ∧ Below w.heap.size w wr) (fun i _ => n + 2 - (intOf i).toNat)
  case atStart => exact ⟨0, by omega, rfl, HB2.out⟩
  case round =>
    obtain ⟨j, hj, rfl, hbw⟩ := hrel
    have HBW := Lib.hid hbw
    clear hbw
    by_cases hlt : j < n
    · have hk : 1 + j < s1.size := by have := HT.out.1; omega
      have hki : ((1 + j : Nat) : Int) < s1.size := by omega
      have hq := HT.out.2.1 j hlt hk
      have c1 : decide ((48 : Int) ≤ ((s1[1 + j]'hk).toNat : Int)) = true := decide_eq_true (by omega)
      have c2 : decide (((s1[1 + j]'hk).toNat : Int) ≤ 57) = true := decide_eq_true (by omega)
      have c3 : IntKind.i64.wrap (((1 + j : Nat) : Int) + 1) = ((1 + (j + 1) : Nat) : Int) := by rw [show ((1 + j : Nat) : Int) + 1 = ((1 + (j + 1) : Nat) : Int) by omega]; exact IntWalk.i64_in _ (by have := HZ1.out; omega)
      obtain ⟨x, hx⟩ : ∃ x : Nat, 1 + j = x := ⟨_, rfl⟩
      have hx2 : 1 + (j + 1) = x + 1 := by omega
      rw [hx2] at c3
      simp only [hx] at hk hki c1 c2 c3 ⊢
      clear hq
      go_wp2
      exact ⟨⟨j + 1, by omega, by rw [hx2]; exact congrArg _ (by omega), HBW.out⟩, by simp [intOf] <;> omega⟩
    · obtain rfl : j = n := by omega
      obtain ⟨x, hx⟩ : ∃ x : Nat, 1 + j = x := ⟨_, rfl⟩
      have HX := Lib.hid hx
      have HE : Hid (¬ (x : Int) < s1.size ∨ ∃ hk : x < s1.size, (decide ((48 : Int) ≤ ((s1[x]'hk).toNat : Int)) = false ∨ (decide ((48 : Int) ≤ ((s1[x]'hk).toNat : Int)) = true ∧ decide (((s1[x]'hk).toNat : Int) ≤ 57) = false))) := Lib.hid (by
        by_cases hk : x < s1.size
        · have h3 := HT.out.2.2 (by omega)
          simp only [hx] at h3
          refine .inr ⟨hk, ?_⟩
          by_cases h4 : 48 ≤ (s1[x]'hk).toNat
          · exact .inr ⟨decide_eq_true (by omega), decide_eq_false (by omega)⟩
          · exact .inl (decide_eq_false (by omega))
        · exact .inl (by omega))
      simp only [hx]
      clear hlt
      have g1 : decide ((x : Int) < 2) = false := decide_eq_false (by have := HX.out; omega)
      have g2 : decide ((10 : Int) < x) = false := decide_eq_false (by have := HX.out; omega)
      have g3 : (1 : Int) ≤ x := by have := HX.out; omega
      have g4 : (x : Int) ≤ s1.size := by have := HX.out; have := HT.out.1; omega
      have HU := Lib.hid hU
      have hU2 : s1.extract 1 x = u := by have := HU.out; rwa [HX.out] at this
      have hR2 : s1.extract x s1.size = r := by have := HR.out; rwa [HX.out] at this
      clear hU
      rcases HE.out with y0 | ⟨y0, y1 | ⟨y1, y2⟩⟩
      · clear HE hx
        go_upto_region 14 with (go_at_call 27; (with_reducible refine (HN4.out _).mono ?_); rintro e w5 ⟨rfl, hX⟩; have HB5 := Lib.hid (bth HBW.out hX); clear hX)
        rcases show ¬ h ≤ 23 ∨ (h ≤ 23 ∧ ¬ mi ≤ 59) ∨ (h ≤ 23 ∧ mi ≤ 59 ∧ ¬ se ≤ 59) ∨ (h ≤ 23 ∧ mi ≤ 59 ∧ se ≤ 59) by omega with q1 | ⟨q1, q2⟩ | ⟨q1, q2, q3⟩ | ⟨q1, q2, q3⟩
        · have b0 : decide ((h : Int) ≤ 23) = false := decide_eq_false (by omega)
          have HQ : Hid (false = decide (h ≤ 23 ∧ mi ≤ 59 ∧ se ≤ 59)) := Lib.hid (decide_eq_false (by omega)).symm
          clear q1
          go_wp2
          (try simp only [Exit.inBlock, Exit.then])
          refine bodyPost_ret (results_tmp4 rfl _ _ _) rfl ?_
          exact ⟨tk4 (by omega) HQ.out, HB5.out⟩
        · have b0 : decide ((h : Int) ≤ 23) = true := decide_eq_true (by omega)
          have b1 : decide ((mi : Int) ≤ 59) = false := decide_eq_false (by omega)
          have HQ : Hid (false = decide (h ≤ 23 ∧ mi ≤ 59 ∧ se ≤ 59)) := Lib.hid (decide_eq_false (by omega)).symm
          clear q1 q2
          go_wp2
          (try simp only [Exit.inBlock, Exit.then])
          refine bodyPost_ret (results_tmp4 rfl _ _ _) rfl ?_
          exact ⟨tk4 (by omega) HQ.out, HB5.out⟩
        · have b0 : decide ((h : Int) ≤ 23) = true := decide_eq_true (by omega)
          have b1 : decide ((mi : Int) ≤ 59) = true := decide_eq_true (by omega)
          have b2 : decide ((se : Int) ≤ 59) = false := decide_eq_false (by omega)
          have HQ : Hid (false = decide (h ≤ 23 ∧ mi ≤ 59 ∧ se ≤ 59)) := Lib.hid (decide_eq_false (by omega)).symm
          clear q1 q2 q3
          go_wp2
          (try simp only [Exit.inBlock, Exit.then])
          refine bodyPost_ret (results_tmp4 rfl _ _ _) rfl ?_
          exact ⟨tk4 (by omega) HQ.out, HB5.out⟩
        · have b0 : decide ((h : Int) ≤ 23) = true := decide_eq_true (by omega)
          have b1 : decide ((mi : Int) ≤ 59) = true := decide_eq_true (by omega)
          have b2 : decide ((se : Int) ≤ 59) = true := decide_eq_true (by omega)
          have HQ : Hid (true = decide (h ≤ 23 ∧ mi ≤ 59 ∧ se ≤ 59)) := Lib.hid (decide_eq_true (by omega)).symm
          clear q1 q2 q3
          go_wp2
          (try simp only [Exit.inBlock, Exit.then])
          refine bodyPost_ret (results_tmp4 rfl _ _ _) rfl ?_
          exact ⟨tk4 (by omega) HQ.out, HB5.out⟩
      · have y3 : (x : Int) < s1.size := by omega
        clear HE hx
        go_upto_region 14 with (go_at_call 27; (with_reducible refine (HN4.out _).mono ?_); rintro e w5 ⟨rfl, hX⟩; have HB5 := Lib.hid (bth HBW.out hX); clear hX)
        rcases show ¬ h ≤ 23 ∨ (h ≤ 23 ∧ ¬ mi ≤ 59) ∨ (h ≤ 23 ∧ mi ≤ 59 ∧ ¬ se ≤ 59) ∨ (h ≤ 23 ∧ mi ≤ 59 ∧ se ≤ 59) by omega with q1 | ⟨q1, q2⟩ | ⟨q1, q2, q3⟩ | ⟨q1, q2, q3⟩
        · have b0 : decide ((h : Int) ≤ 23) = false := decide_eq_false (by omega)
          have HQ : Hid (false = decide (h ≤ 23 ∧ mi ≤ 59 ∧ se ≤ 59)) := Lib.hid (decide_eq_false (by omega)).symm
          clear q1
          go_wp2
          (try simp only [Exit.inBlock, Exit.then])
          refine bodyPost_ret (results_tmp4 rfl _ _ _) rfl ?_
          exact ⟨tk4 (by omega) HQ.out, HB5.out⟩
        · have b0 : decide ((h : Int) ≤ 23) = true := decide_eq_true (by omega)
          have b1 : decide ((mi : Int) ≤ 59) = false := decide_eq_false (by omega)
          have HQ : Hid (false = decide (h ≤ 23 ∧ mi ≤ 59 ∧ se ≤ 59)) := Lib.hid (decide_eq_false (by omega)).symm
          clear q1 q2
          go_wp2
          (try simp only [Exit.inBlock, Exit.then])
          refine bodyPost_ret (results_tmp4 rfl _ _ _) rfl ?_
          exact ⟨tk4 (by omega) HQ.out, HB5.out⟩
        · have b0 : decide ((h : Int) ≤ 23) = true := decide_eq_true (by omega)
          have b1 : decide ((mi : Int) ≤ 59) = true := decide_eq_true (by omega)
          have b2 : decide ((se : Int) ≤ 59) = false := decide_eq_false (by omega)
          have HQ : Hid (false = decide (h ≤ 23 ∧ mi ≤ 59 ∧ se ≤ 59)) := Lib.hid (decide_eq_false (by omega)).symm
          clear q1 q2 q3
          go_wp2
          (try simp only [Exit.inBlock, Exit.then])
          refine bodyPost_ret (results_tmp4 rfl _ _ _) rfl ?_
          exact ⟨tk4 (by omega) HQ.out, HB5.out⟩
        · have b0 : decide ((h : Int) ≤ 23) = true := decide_eq_true (by omega)
          have b1 : decide ((mi : Int) ≤ 59) = true := decide_eq_true (by omega)
          have b2 : decide ((se : Int) ≤ 59) = true := decide_eq_true (by omega)
          have HQ : Hid (true = decide (h ≤ 23 ∧ mi ≤ 59 ∧ se ≤ 59)) := Lib.hid (decide_eq_true (by omega)).symm
          clear q1 q2 q3
          go_wp2
          (try simp only [Exit.inBlock, Exit.then])
          refine bodyPost_ret (results_tmp4 rfl _ _ _) rfl ?_
          exact ⟨tk4 (by omega) HQ.out, HB5.out⟩
      · have y3 : (x : Int) < s1.size := by omega
        clear HE hx
        go_upto_region 14 with (go_at_call 27; (with_reducible refine (HN4.out _).mono ?_); rintro e w5 ⟨rfl, hX⟩; have HB5 := Lib.hid (bth HBW.out hX); clear hX)
        rcases show ¬ h ≤ 23 ∨ (h ≤ 23 ∧ ¬ mi ≤ 59) ∨ (h ≤ 23 ∧ mi ≤ 59 ∧ ¬ se ≤ 59) ∨ (h ≤ 23 ∧ mi ≤ 59 ∧ se ≤ 59) by omega with q1 | ⟨q1, q2⟩ | ⟨q1, q2, q3⟩ | ⟨q1, q2, q3⟩
        · have b0 : decide ((h : Int) ≤ 23) = false := decide_eq_false (by omega)
          have HQ : Hid (false = decide (h ≤ 23 ∧ mi ≤ 59 ∧ se ≤ 59)) := Lib.hid (decide_eq_false (by omega)).symm
          clear q1
          go_wp2
          (try simp only [Exit.inBlock, Exit.then])
          refine bodyPost_ret (results_tmp4 rfl _ _ _) rfl ?_
          exact ⟨tk4 (by omega) HQ.out, HB5.out⟩
        · have b0 : decide ((h : Int) ≤ 23) = true := decide_eq_true (by omega)
          have b1 : decide ((mi : Int) ≤ 59) = false := decide_eq_false (by omega)
          have HQ : Hid (false = decide (h ≤ 23 ∧ mi ≤ 59 ∧ se ≤ 59)) := Lib.hid (decide_eq_false (by omega)).symm
          clear q1 q2
          go_wp2
          (try simp only [Exit.inBlock, Exit.then])
          refine bodyPost_ret (results_tmp4 rfl _ _ _) rfl ?_
          exact ⟨tk4 (by omega) HQ.out, HB5.out⟩
        · have b0 : decide ((h : Int) ≤ 23) = true := decide_eq_true (by omega)
          have b1 : decide ((mi : Int) ≤ 59) = true := decide_eq_true (by omega)
          have b2 : decide ((se : Int) ≤ 59) = false := decide_eq_false (by omega)
          have HQ : Hid (false = decide (h ≤ 23 ∧ mi ≤ 59 ∧ se ≤ 59)) := Lib.hid (decide_eq_false (by omega)).symm
          clear q1 q2 q3
          go_wp2
          (try simp only [Exit.inBlock, Exit.then])
          refine bodyPost_ret (results_tmp4 rfl _ _ _) rfl ?_
          exact ⟨tk4 (by omega) HQ.out, HB5.out⟩
        · have b0 : decide ((h : Int) ≤ 23) = true := decide_eq_true (by omega)
          have b1 : decide ((mi : Int) ≤ 59) = true := decide_eq_true (by omega)
          have b2 : decide ((se : Int) ≤ 59) = true := decide_eq_true (by omega)
          have HQ : Hid (true = decide (h ≤ 23 ∧ mi ≤ 59 ∧ se ≤ 59)) := Lib.hid (decide_eq_true (by omega)).symm
          clear q1 q2 q3
          go_wp2
          (try simp only [Exit.inBlock, Exit.then])
          refine bodyPost_ret (results_tmp4 rfl _ _ _) rfl ?_
          exact ⟨tk4 (by omega) HQ.out, HB5.out⟩
end Go.Proofs.YtkbddelacjjapaaDoor.Mom
