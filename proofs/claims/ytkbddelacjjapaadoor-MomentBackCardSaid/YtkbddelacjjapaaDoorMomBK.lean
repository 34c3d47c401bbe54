/-
  Package moment's reference: Parse at any text, in one contract; the law MomentParses.
-/
import Derived.Test.YtkbddelacjjapaaDoorMomBJ
import Derived.Test.YtkbddelacjjapaaDoorMomP
namespace Go.Proofs.YtkbddelacjjapaaDoor.Mom
open Go.RowKit
set_option linter.unusedVariables false
set_option linter.unusedSimpArgs false
open Go.Proofs.YtkbddelacjjapaaDoor.Cal

theorem pa_none {l : List UInt8} (h : spL l = none) : paL l = (0, 0, 0, 0, 3) := by unfold paL; rw [h]
theorem pa_in {l : List UInt8} {f : FL} (h : spL l = some f) (hi : inR f) : paL l = ((f.k : Int), dyd f, nan f, zoo f, 0) := by unfold paL; rw [h]; exact if_pos hi
theorem pa_in2 {l : List UInt8} {f : FL} (h : spL l = some f) {D N O : Int} (hD : dyd f = D) (hN : nan f = N) (hO : zoo f = O) (hi : inR f) : paL l = ((f.k : Int), D, N, O, 0) := by rw [pa_in h hi, hD, hN, hO]
theorem pa_out {l : List UInt8} {f : FL} (h : spL l = some f) (hi : ¬ inR f) : paL l = (0, 0, 0, 0, 2) := by unfold paL; rw [h]; exact if_neg hi
theorem dayE_two {y m d : Int} (h : dayE y m d ≠ 0) : dayE y m d = 2 := by
  unfold dayE at h ⊢
  split
  · rename_i hb
    rw [if_pos hb] at h
    exact absurd rfl h
  · rfl
theorem rparse_any (s : ByteArray) (w : World) (hs : s.size ≤ 9223372036854775807) : Calls Tryd.prog 13 #[.string s] w fun e w' => e = tR (paL s.data.toList) ∧ Below w.heap.size w w' := by
  by_cases hf : formL (sub s.data.toList 0 10) p10 = true
  · have hz : 10 ≤ s.size := form_size (by rw [ex_sub]; exact hf) rfl
    have HD := fun w => rday_any (nvl (sub s.data.toList 0 4)) (nvl (sub s.data.toList 5 7)) (nvl (sub s.data.toList 8 10)) w
    have hE := ex_end s 10
    by_cases h10 : s.size = 10
    · have e : spL s.data.toList = some ⟨1, nvl (sub s.data.toList 0 4), nvl (sub s.data.toList 5 7), nvl (sub s.data.toList 8 10), 0, 0, 0, 0, false, 0, 0⟩ := by unfold spL; rw [if_pos hf, if_pos (show s.data.toList.length = 10 from h10)]
      have he : (s.extract 10 s.size).data.toList = [] := by rw [hE]; exact List.drop_eq_nil_of_le (by have : s.data.toList.length = s.size := rfl; omega)
      by_cases h0 : dayE (nvl (sub s.data.toList 0 4)) (nvl (sub s.data.toList 5 7)) (nvl (sub s.data.toList 8 10)) = 0
      · rw [pa_in2 e (D := (dayN (nvl (sub s.data.toList 0 4)) (nvl (sub s.data.toList 5 7)) (nvl (sub s.data.toList 8 10)))) (N := 0) (O := 0) (by unfold dyd; exact if_neg (by dsimp only; decide)) (by unfold nan; simp) (by unfold zoo; simp) ⟨.inr h0, by dsimp only; decide, by dsimp only; decide, by dsimp only; decide, by dsimp only; decide, by dsimp only; decide⟩]
        exact rparse_d2 s w _ _ _ _ _ hz hf rfl rfl rfl (Lib.hid HD) _ rfl he h0
      · rw [pa_out e (fun h => h.1.elim (fun x => absurd x (by dsimp only; decide)) h0)]
        have := rparse_d1 s w _ _ _ _ _ hz hf rfl rfl rfl (Lib.hid HD) _ rfl he h0
        rw [dayE_two h0] at this
        exact this
    · have h11 : 10 < s.size := by omega
      have hh := head_at s 10 h11
      have hl10 : ¬ s.data.toList.length = 10 := h10
      obtain ⟨s10, hs10⟩ : ∃ s10, s.extract 10 s.size = s10 := ⟨_, rfl⟩
      rw [hs10] at hE
      have hne : s10.data.toList ≠ [] := by
        rw [hE]; intro e; rw [e] at hh; cases hh
      have hz0 : 0 < s10.size := by
        rw [← hs10, ByteArray.size_extract]; omega
      have hh2 := head_at0 s10 hz0
      rw [hE] at hh2
      by_cases hb : (s.data.toList.drop 10).head? = some 84 ∨ (s.data.toList.drop 10).head? = some 116 ∨ (s.data.toList.drop 10).head? = some 32
      · have hb2 : ∀ hh : 0 < s10.size, (s10[0]'hh).toNat = 84 ∨ (s10[0]'hh).toNat = 116 ∨ (s10[0]'hh).toNat = 32 := fun _ => by
          rw [hh2] at hb
          simp only [Option.some.injEq] at hb
          rcases hb with q | q | q
          · exact .inl (by rw [q]; rfl)
          · exact .inr (.inl (by rw [q]; rfl))
          · exact .inr (.inr (by rw [q]; rfl))
        obtain ⟨s11, hs11⟩ : ∃ s11, s10.extract 1 s10.size = s11 := ⟨_, rfl⟩
        have hE1 : s11.data.toList = s.data.toList.drop 11 := by rw [← hs11, ex_end, hE, List.drop_drop]
        have hsx : s11.size ≤ 9223372036854775807 := by
          rw [← hs11, ByteArray.size_extract, ← hs10, ByteArray.size_extract]; omega
        have HT := fun w => rtake_any s11 w hsx
        rw [hE1] at HT
        cases hc : clkL (s.data.toList.drop 11) with
        | none =>
          rw [hc] at HT
          rw [pa_none (by unfold spL; rw [if_pos hf, if_neg hl10, if_pos hb, hc])]
          exact rparse_t1 s w _ _ _ _ _ hz hf rfl rfl rfl (Lib.hid HD) _ hs10 hne hb2 _ hs11 0 false (Lib.hid HT)
        | some v =>
          obtain ⟨h, mi, se, na, r⟩ := v
          rw [hc] at HT
          by_cases hr : r = []
          · have e : spL s.data.toList = some ⟨3, nvl (sub s.data.toList 0 4), nvl (sub s.data.toList 5 7), nvl (sub s.data.toList 8 10), h, mi, se, na, false, 0, 0⟩ := by
              unfold spL; rw [if_pos hf, if_neg hl10, if_pos hb, hc]; simp only []; rw [if_pos hr]
            subst hr
            by_cases hq : dayE (nvl (sub s.data.toList 0 4)) (nvl (sub s.data.toList 5 7)) (nvl (sub s.data.toList 8 10)) = 0 ∧ (h ≤ 23 ∧ mi ≤ 59 ∧ se ≤ 59)
            · rw [pa_in2 e (D := (dayN (nvl (sub s.data.toList 0 4)) (nvl (sub s.data.toList 5 7)) (nvl (sub s.data.toList 8 10)))) (N := (h * 3600000000000 + mi * 60000000000 + se * 1000000000 + na)) (O := 0) (by unfold dyd; exact if_neg (by dsimp only; decide)) rfl (by unfold zoo; simp) ⟨.inr hq.1, hq.2.1, hq.2.2.1, hq.2.2.2, by dsimp only; decide, by dsimp only; decide⟩]
              simp only [TKpost] at HT
              rw [decide_eq_true hq.2] at HT
              exact rparse_t3 s w _ _ _ _ _ hz hf rfl rfl rfl (Lib.hid HD) _ hs10 hne hb2 _ hs11 _ hq.1 (Lib.hid HT)
            · rw [pa_out e (fun h => hq ⟨h.1.elim (fun x => absurd x (by dsimp only; decide)) id, h.2.1, h.2.2.1, h.2.2.2.1⟩)]
              refine rparse_t2 s w _ _ _ _ _ hz hf rfl rfl rfl (Lib.hid HD) _ hs10 hne hb2 _ hs11 _ _ ?_ (Lib.hid HT)
              by_cases h0 : dayE (nvl (sub s.data.toList 0 4)) (nvl (sub s.data.toList 5 7)) (nvl (sub s.data.toList 8 10)) = 0
              · exact .inr ⟨h0, decide_eq_false (fun h => hq ⟨h0, h⟩)⟩
              · exact .inl h0
          · have HO := fun w => roffs_any ⟨r.toArray⟩ w
            rw [ba_eq] at HO
            cases hzn : znpL r with
            | none =>
              rw [hzn] at HO
              rw [pa_none (by unfold spL; rw [if_pos hf, if_neg hl10, if_pos hb, hc]; simp only []; rw [if_neg hr, hzn])]
              exact rparse_t4 s w _ _ _ _ _ hz hf rfl rfl rfl (Lib.hid HD) _ hs10 hne hb2 _ hs11 _ _ _ _ ⟨r.toArray⟩ (by rw [ba_eq]; exact hr) (Lib.hid HT) (Lib.hid HO)
            | some v =>
              obtain ⟨ea, zh, zm⟩ := v
              rw [hzn] at HO
              have e : spL s.data.toList = some ⟨4, nvl (sub s.data.toList 0 4), nvl (sub s.data.toList 5 7), nvl (sub s.data.toList 8 10), h, mi, se, na, ea, zh, zm⟩ := by
                unfold spL; rw [if_pos hf, if_neg hl10, if_pos hb, hc]; simp only []; rw [if_neg hr, hzn]
              by_cases hq : dayE (nvl (sub s.data.toList 0 4)) (nvl (sub s.data.toList 5 7)) (nvl (sub s.data.toList 8 10)) = 0 ∧ (h ≤ 23 ∧ mi ≤ 59 ∧ se ≤ 59) ∧ (zh ≤ 23 ∧ zm ≤ 59)
              · rw [pa_in2 e (D := (dayN (nvl (sub s.data.toList 0 4)) (nvl (sub s.data.toList 5 7)) (nvl (sub s.data.toList 8 10)))) (N := (h * 3600000000000 + mi * 60000000000 + se * 1000000000 + na)) (O := if ea = true then (zh : Int) * 60 + zm else -((zh : Int) * 60 + zm)) (by unfold dyd; exact if_neg (by dsimp only; decide)) rfl rfl ⟨.inr hq.1, hq.2.1.1, hq.2.1.2.1, hq.2.1.2.2, hq.2.2.1, hq.2.2.2⟩]
                simp only [TKpost] at HT
                simp only [TOpost] at HO
                rw [decide_eq_true hq.2.1] at HT
                rw [decide_eq_true hq.2.2] at HO
                exact rparse_t6 s w _ _ _ _ _ hz hf rfl rfl rfl (Lib.hid HD) _ hs10 hne hb2 _ hs11 _ _ ⟨r.toArray⟩ (by rw [ba_eq]; exact hr) hq.1 (Lib.hid HT) (Lib.hid HO)
              · rw [pa_out e (fun h => hq ⟨h.1.elim (fun x => absurd x (by dsimp only; decide)) id, ⟨h.2.1, h.2.2.1, h.2.2.2.1⟩, h.2.2.2.2.1, h.2.2.2.2.2⟩)]
                refine rparse_t5 s w _ _ _ _ _ hz hf rfl rfl rfl (Lib.hid HD) _ hs10 hne hb2 _ hs11 _ _ _ _ ⟨r.toArray⟩ (by rw [ba_eq]; exact hr) ?_ (Lib.hid HT) (Lib.hid HO)
                by_cases h0 : dayE (nvl (sub s.data.toList 0 4)) (nvl (sub s.data.toList 5 7)) (nvl (sub s.data.toList 8 10)) = 0
                · by_cases h1 : h ≤ 23 ∧ mi ≤ 59 ∧ se ≤ 59
                  · exact .inr (.inr ⟨h0, decide_eq_true h1, decide_eq_false (fun h => hq ⟨h0, h1, h⟩)⟩)
                  · exact .inr (.inl ⟨h0, decide_eq_false h1⟩)
                · exact .inl h0
      · rw [pa_none (by unfold spL; rw [if_pos hf, if_neg hl10, if_neg hb])]
        refine rparse_d3 s w _ _ _ _ _ hz hf rfl rfl rfl (Lib.hid HD) _ hs10 hne (fun _ => ?_)
        rw [hh2] at hb
        simp only [Option.some.injEq] at hb
        exact ⟨fun q => hb (.inl ((u8_nat (by decide)).1 q)), fun q => hb (.inr (.inl ((u8_nat (by decide)).1 q))), fun q => hb (.inr (.inr ((u8_nat (by decide)).1 q)))⟩
  · have hf0 : formL (sub s.data.toList 0 10) p10 = false := by simpa using hf
    have HT := fun w => rtake_any s w hs
    cases hc : clkL s.data.toList with
    | none =>
      rw [hc] at HT
      rw [pa_none (by unfold spL; rw [if_neg hf, hc])]
      exact rparse_n1 s w 0 hf0 false (Lib.hid HT)
    | some v =>
      obtain ⟨h, mi, se, na, r⟩ := v
      rw [hc] at HT
      by_cases hr : r = []
      · have e : spL s.data.toList = some ⟨2, 0, 0, 0, h, mi, se, na, false, 0, 0⟩ := by unfold spL; rw [if_neg hf, hc]; simp only []; rw [if_pos hr]
        subst hr
        by_cases hq : h ≤ 23 ∧ mi ≤ 59 ∧ se ≤ 59
        · rw [pa_in2 e (D := 0) (N := (h * 3600000000000 + mi * 60000000000 + se * 1000000000 + na)) (O := 0) (by unfold dyd; exact if_pos rfl) rfl (by unfold zoo; simp) ⟨.inl rfl, hq.1, hq.2.1, hq.2.2, by dsimp only; decide, by dsimp only; decide⟩]
          simp only [TKpost] at HT
          rw [decide_eq_true hq] at HT
          exact rparse_n4 s w _ hf0 (Lib.hid HT)
        · rw [pa_out e (fun h => hq ⟨h.2.1, h.2.2.1, h.2.2.2.1⟩)]
          simp only [TKpost] at HT
          rw [decide_eq_false hq] at HT
          exact rparse_n3 s w _ hf0 (Lib.hid HT)
      · rw [pa_none (by unfold spL; rw [if_neg hf, hc]; simp only []; rw [if_neg hr])]
        exact rparse_n2 s w _ hf0 _ ⟨r.toArray⟩ (by rw [ba_eq]; exact hr) (Lib.hid HT)
set_option maxRecDepth 100000 in
set_option maxHeartbeats 4000000 in
theorem parses_walk (s : ByteArray) (w : World) (ht : Tb w) (hs : s.size ≤ maxLen) : Calls Tryd.prog 5 #[.string s] w fun e w' => e = .returned (.bool true) ∧ Below w.heap.size w w' := by
  replace hs : s.size ≤ 9223372036854775807 := by unfold maxLen at hs; omega
  have HAW := Lib.hid (fun (w' : World) (hb : Below w.heap.size w w') => awake_any w' (ht.next hb))
  have H1 := Lib.hid (fun w => parse_any s w hs)
  have H2 := Lib.hid (fun w => rparse_any s w hs)
  obtain ⟨pa, pb, pc, pd, pe, hRp⟩ : ∃ ga gb gc gd ge, paL s.data.toList = (ga, gb, gc, gd, ge) := ⟨_, _, _, _, _, rfl⟩
  rw [hRp] at H1 H2
  unfold tR at H1 H2
  simp only at H1 H2
  clear hRp ht hs
  have bl : Below w.heap.size w w := Below.refl _ _
  go_enter Tryd.func5, Tryd.ntmps5
  go_wp2_with (first | (go_at_call 12; go_loud ((with_reducible refine (H1.out _).mono ?_); rintro e WK ⟨rfl, hb⟩; have Xp := TB.new WK pa pb pc pd; have bl := (bl.trans (hb.mono bl.size)).alloc (Nat.le_trans bl.size hb.size) (.cells #[.int .i64 pa, .int .i64 pb, .int .i64 pc, .int .i64 pd] 23); clear hb)) | (go_at_call 13; go_loud ((with_reducible refine (H2.out _).mono ?_); rintro e WM ⟨rfl, hb⟩; have Xp := (Xp.below hb Xp.lt).alloc (.cells #[.int .i64 pa, .int .i64 pb, .int .i64 pc, .int .i64 pd] 23); have Xq := TB.new WM pa pb pc pd; have bl := (bl.trans (hb.mono bl.size)).alloc (Nat.le_trans bl.size hb.size) (.cells #[.int .i64 pa, .int .i64 pb, .int .i64 pc, .int .i64 pd] 23); clear hb; obtain ⟨p0, p1, p2, p3⟩ := Xp.cells; obtain ⟨q0, q1, q2, q3⟩ := Xq.cells)) | (go_at_call 7; go_loud ((with_reducible refine (HAW.out _ bl).mono ?_); rintro e wz ⟨rfl, hb⟩; have bl := bl.trans (hb.mono bl.size); clear hb)))
  go_ret
  exact ⟨rfl, bl⟩
end Go.Proofs.YtkbddelacjjapaaDoor.Mom
