/-
  Contracts of package base's reference: base64 read, whole.
-/
import Derived.Test.YtacmallcfaokpaaBasH
namespace Go.Proofs.Ytacmallcfaokpaa.Bas
open Go.RowKit
set_option linter.unusedVariables false
set_option linter.unusedSimpArgs false

theorem drop_nil {s : List UInt8} (h : ne s = s.length) : s.drop (ne s) = [] := by rw [h, List.drop_length]
theorem rep_len {a b : Nat} (h : List.replicate a (61 : UInt8) = List.replicate b 61) : a = b := by simpa using congrArg List.length h
theorem decE_0 {s : List UInt8} {pad : Bool} (h : encP (by8 (dsL s)) pad = s) : decE s pad = 0 := by
  obtain ⟨hw, hd⟩ := (enc_eq s pad).1 h
  unfold decE
  by_cases hl : ne s = s.length
  · rw [if_pos hl]
    rw [drop_nil hl] at hd
    have hp : pads pad (ne s) = 0 := (rep_len (a := 0) hd).symm
    unfold pads at hp
    rw [if_pos]
    rw [hw]
    cases pad
    · rfl
    · simp at hp ⊢; omega
  · rw [if_neg hl]
    have hne := ne_le s
    have hp : pads pad (ne s) ≠ 0 := by
      intro e
      rw [e] at hd
      have := congrArg List.length hd
      rw [List.length_drop] at this
      simp at this; omega
    have h1 : pad = true := by
      cases pad
      · exact absurd rfl hp
      · rfl
    subst h1
    have h2 : ne s % 4 ≠ 0 := by
      intro e; apply hp; unfold pads; rw [if_pos rfl, e]
    have h3 : pads true (ne s) = 4 - ne s % 4 := by
      unfold pads; rw [if_pos rfl]; omega
    rw [if_pos (by rw [hw]; simpa using h2), if_pos (by rw [hd, h3])]
theorem decE_4 {s : List UInt8} {pad : Bool} (hn : encP (by8 (dsL s)) pad ≠ s) (h : ne s = s.length ∨ (s.length < (encP (by8 (dsL s)) pad).length ∧ (encP (by8 (dsL s)) pad).take s.length = s)) : decE s pad = 4 := by
  by_cases hl : ne s = s.length
  · unfold decE
    rw [if_pos hl]
    rw [if_neg]
    intro hc
    apply hn
    rw [Bool.and_eq_true] at hc
    rw [enc_eq]
    refine ⟨hc.1, ?_⟩
    rw [drop_nil hl]
    have : pads pad (ne s) = 0 := by
      unfold pads
      cases pad
      · rfl
      · have := hc.2
        simp at this
        rw [if_pos rfl, this]
    rw [this]; rfl
  · obtain ⟨h1, h2⟩ := h.resolve_left hl
    have hle := ne_le s
    obtain ⟨l, hl0⟩ : ∃ l, by8 (dsL s) = l := ⟨_, rfl⟩
    rw [hl0] at h1 h2
    have hL : (encL l).length < s.length := by
      apply Nat.lt_of_not_le
      intro hc
      apply hl
      have e : (encP l pad).take s.length = (encL l).take s.length := by
        unfold encP
        rw [List.take_append_of_le_length hc]
      rw [e] at h2
      have h3 : ∀ c ∈ s, 0 ≤ dv c := by
        intro c hc
        rw [← h2] at hc
        exact encL_dv l c (List.mem_of_mem_take hc)
      have := ne_app (a := s) (b := []) h3 (by intro c h; cases h)
      rwa [List.append_nil] at this
    have e : (encP l pad).take s.length = encL l ++ List.replicate (s.length - (encL l).length) 61 := by
      unfold encP at h1 ⊢
      rw [List.length_append, List.length_replicate] at h1
      rw [List.take_append, List.take_of_length_le (by omega), List.take_replicate, Nat.min_eq_left (by omega)]
    rw [e] at h2
    obtain ⟨m, hm⟩ : ∃ m, s.length - (encL l).length = m := ⟨_, rfl⟩
    rw [hm] at h2
    have hne : ne s = (encL l).length := by
      rw [← h2]; exact ne_app (encL_dv l) (rep_head _)
    have hds : dsL s = sx l := by
      unfold dsL
      rw [hne]
      have : s.take (encL l).length = encL l := by
        conv => lhs; arg 2; rw [← h2]
        exact List.take_left
      rw [this, encL_sx, map_dv_td (sx_lt l)]
    have hdr : s.drop (ne s) = List.replicate m 61 := by
      rw [hne]
      conv => lhs; arg 2; rw [← h2]
      exact List.drop_left
    have hw : whole (dsL s) = true := by rw [hds]; exact whole_sx l
    unfold encP at h1
    rw [List.length_append, List.length_replicate, ← hne] at h1
    have hp : pads pad (ne s) ≠ 0 := by omega
    have hpd : pad = true := by
      cases pad
      · exact absurd rfl hp
      · rfl
    subst hpd
    have h5 : ne s % 4 ≠ 0 := by
      intro e; apply hp; unfold pads; rw [if_pos rfl, e]
    have h6 : pads true (ne s) = 4 - ne s % 4 := by
      unfold pads; rw [if_pos rfl]; omega
    unfold decE
    rw [if_neg hl, if_pos (by rw [hw]; simpa using h5), hdr, if_neg (by intro e; have := rep_len e; omega), if_pos]
    rw [prefix_rep]
    simp; omega
theorem decE_3 {s : List UInt8} {pad : Bool} (hn : encP (by8 (dsL s)) pad ≠ s) (hl : ne s ≠ s.length) (h : ¬ (s.length < (encP (by8 (dsL s)) pad).length ∧ (encP (by8 (dsL s)) pad).take s.length = s)) : decE s pad = 3 := by
  unfold decE
  rw [if_neg hl]
  by_cases hc : (pad && whole (dsL s) && decide (ne s % 4 ≠ 0)) = true
  · rw [if_pos hc]
    simp only [Bool.and_eq_true, decide_eq_true_iff] at hc
    obtain ⟨⟨h1, hw⟩, h5⟩ := hc
    subst h1
    have h6 : pads true (ne s) = 4 - ne s % 4 := by
      unfold pads; rw [if_pos rfl]; omega
    have hq : s.drop (ne s) ≠ List.replicate (4 - ne s % 4) 61 := by
      intro e
      apply hn
      rw [enc_eq]
      exact ⟨hw, by rw [e, h6]⟩
    rw [if_neg hq, if_neg]
    intro hp
    rw [prefix_rep] at hp
    obtain ⟨p1, p2⟩ := hp
    obtain ⟨m, hm⟩ : ∃ m, (s.drop (ne s)).length = m := ⟨_, rfl⟩
    rw [hm] at p1 p2
    have hmn : m ≠ 4 - ne s % 4 := by
      intro e; apply hq; rw [p2, e]
    have hle := ne_le s
    have hsl : s.length = ne s + m := by rw [← hm, List.length_drop]; omega
    have hte := fd_ds hw
    have hLe : (encL (by8 (dsL s))).length = ne s := by rw [hte, List.length_take]; omega
    apply h
    unfold encP
    rw [hLe, h6]
    refine ⟨by rw [List.length_append, List.length_replicate, hLe]; omega, ?_⟩
    rw [hte, List.take_append, List.length_take, Nat.min_eq_left hle, hsl, List.take_of_length_le (by rw [List.length_take]; omega), show ne s + m - ne s = m by omega, List.take_replicate, Nat.min_eq_left (by omega)]
    conv => rhs; rw [← List.take_append_drop (ne s) s, p2]
  · rw [if_neg hc]
/-- What the reference's Decode tells of the text of the bytes. -/
structure TOK (s : List UInt8) (pad : Bool) (T : ByteArray) : Prop where
  eq : T.data.toList = encP (by8 (dsL s)) pad
theorem by8_short {s : ByteArray} (h : s.size ≤ 5000) : (by8 (dsL s.data.toList)).length ≤ 4000 := by
  rw [by8_len, dsL_len]
  have := ne_le s.data.toList
  rw [size_list] at this
  omega
theorem dec_ok {s : List UInt8} {pad : Bool} {w w' : World} {v : Value} (h : encP (by8 (dsL s)) pad = s) (hb : Below w.heap.size w w') (hv : Bs w' w'.heap.size v (by8 (dsL s))) : DecPost s pad w (.returned (.tuple #[v, .int .i64 0])) w' :=
  ⟨v, by rw [decE_0 h], hb, by unfold decR; rw [if_pos (decE_0 h)]; exact hv⟩
theorem dec_no {s : List UInt8} {pad : Bool} {w w' : World} {E : Int} (h : decE s pad = E) (h0 : E ≠ 0) (hb : Below w.heap.size w w') : DecPost s pad w (.returned (.tuple #[.slice none 0 0, .int .i64 E])) w' :=
  ⟨.slice none 0 0, by rw [h], hb, by unfold decR; rw [h, if_neg h0]; exact nil_bs _ _⟩
set_option maxRecDepth 100000 in
set_option maxHeartbeats 4000000 in
theorem rdec_any (s : ByteArray) (pad : Bool) (w : World) (hs : s.size ≤ 5000) : Calls Try.prog 21 #[.string s, .bool pad] w (DecPost s.data.toList pad w) := by
  go_enter Try.func21, Try.ntmps21
  go_wp2
  go_loop [6] (fun i => ∃ k : Nat, k ≤ s.size ∧ i = .int .i64 k ∧ Hid (∀ j, j < k → 0 ≤ dv (s.data.toList.getD j 0))) (fun i => s.size - (intOf i).toNat)
  case atStart => exact ⟨0, by omega, rfl, Lib.hid fun j hj => by omega⟩
  case round =>
    obtain ⟨k, hk, rfl, HA⟩ := hrel
    by_cases hc : k < s.size ∧ 0 ≤ dv (s.data.toList.getD k 0)
    · obtain ⟨hlt, h0⟩ := hc
      obtain ⟨x, hx⟩ : ∃ x, Hid (dv (s.data.toList.getD k 0) = x) := ⟨_, Lib.hid rfl⟩
      have HA2 : Hid (∀ j, j < k + 1 → 0 ≤ dv (s.data.toList.getD j 0)) := Lib.hid fun j hj => by
        by_cases e : j = k
        · rw [e]; exact h0
        · exact HA.out j (by omega)
      rw [hx.out] at h0
      go_wp2_with (go_at_call 25; (with_reducible refine (fn6_is hlt hx).mono ?_); rintro e w' ⟨rfl, rfl⟩)
      go_round
      case rel => exact ⟨k + 1, by omega, by go_num, HA2⟩
      case measure => simp [intOf]; omega
    · have HN : Hid (ne s.data.toList = k) := Lib.hid (ne_of (by rw [size_list]; omega) HA.out (fun h => by rw [size_list] at h; have := fun h0 => hc ⟨h, h0⟩; omega))
      have HR := Lib.hid (fun (p : ByteArray) w (hpl : p.data.toList = s.data.toList.take k) => rbytes_any p w (by have := congrArg List.length hpl; rw [size_list, List.length_take, size_list] at this; omega) (fun j hj => by
        have hps : p.size = k := by rw [← size_list, hpl, List.length_take, size_list]; omega
        have := HA.out j (by omega)
        rwa [hpl, List.getD_eq_getElem?_getD, List.getElem?_take_of_lt (by omega), ← List.getD_eq_getElem?_getD]))
      have HR : Hid (∀ (p : ByteArray) w, p.data.toList = s.data.toList.take k → Calls Try.prog 28 #[.string p] w fun e w' => ∃ v, e = .returned v ∧ Below w.heap.size w w' ∧ Bs w' w'.heap.size v (by8 (dsL s.data.toList))) := Lib.hid fun p w hpl => by
        have hps : p.size = k := by rw [← size_list, hpl, List.length_take, size_list]; omega
        have := HR.out p w hpl
        rwa [hpl, hps, gb_take _ (by omega), show gb s.data.toList (6 * k / 8) = by8 (dsL s.data.toList) by rw [← HN.out, gb_by8]] at this
      obtain ⟨T, hT⟩ : ∃ T : ByteArray, T = ⟨(encP (by8 (dsL s.data.toList)) pad).toArray⟩ := ⟨_, rfl⟩
      have hTl : T.data.toList = encP (by8 (dsL s.data.toList)) pad := by rw [hT]
      have hTs : T.size ≤ 6000 := by
        rw [← size_list, hTl]
        unfold encP
        rw [List.length_append, List.length_replicate, encL_len]
        have := by8_short hs
        have hp : pads pad ((8 * (by8 (dsL s.data.toList)).length + 5) / 6) ≤ 3 := by unfold pads; split <;> omega
        omega
      have HE := Lib.hid (fun v w (h : Bs w w.heap.size v (by8 (dsL s.data.toList))) => renc_any v _ pad w h (by8_short hs))
      rw [← hT] at HE
      clear hT
      by_cases heq : encP (by8 (dsL s.data.toList)) pad = s.data.toList
      · have h1 := str_eq (a := T) (b := s) (by rw [hTl, heq])
        have HQ := Lib.hid heq
        clear hTl heq
        by_cases hlt : k < s.size
        · obtain ⟨x, hx⟩ : ∃ x, Hid (dv (s.data.toList.getD k 0) = x) := ⟨_, Lib.hid rfl⟩
          have h0 : x < 0 := by rw [← hx.out]; have := fun h0 => hc ⟨hlt, h0⟩; omega
          have hpf : (s.extract 0 k).data.toList = s.data.toList.take k := by rw [ext_list]; simp
          have HPF := Lib.hid hpf
          clear hc hpf
          go_wp2_with (first | (go_at_call 25; (with_reducible refine (fn6_is hlt hx).mono ?_); rintro e w' ⟨rfl, rfl⟩) | (go_at_call 28; (with_reducible refine (HR.out _ _ HPF.out).mono ?_); rintro e w1 ⟨v1, rfl, hb1, hv1⟩; have HV1 := Lib.hid hv1; clear hv1) | (go_at_call 17; (with_reducible refine (HE.out _ _ HV1.out).mono ?_); rintro e w2 ⟨rfl, hb2⟩))
          go_ret2
          exact dec_ok HQ.out (bthen hb1 hb2) ((HV1.out.below hb2).mono hb2.size)
        · obtain rfl : k = s.size := by omega
          have hpf : s.data.toList = s.data.toList.take s.size := (List.take_of_length_le (Nat.le_of_eq (size_list s))).symm
          have HPF := Lib.hid hpf
          clear hc hpf
          go_wp2_with (first | (go_at_call 28; (with_reducible refine (HR.out _ _ HPF.out).mono ?_); rintro e w1 ⟨v1, rfl, hb1, hv1⟩; have HV1 := Lib.hid hv1; clear hv1) | (go_at_call 17; (with_reducible refine (HE.out _ _ HV1.out).mono ?_); rintro e w2 ⟨rfl, hb2⟩))
          go_ret2
          exact dec_ok HQ.out (bthen hb1 hb2) ((HV1.out.below hb2).mono hb2.size)
      · have h1 := str_ne (a := T) (b := s) (by rw [hTl]; exact heq)
        by_cases hlt : k < s.size
        · obtain ⟨x, hx⟩ : ∃ x, Hid (dv (s.data.toList.getD k 0) = x) := ⟨_, Lib.hid rfl⟩
          have h0 : x < 0 := by rw [← hx.out]; have := fun h0 => hc ⟨hlt, h0⟩; omega
          have hpf : (s.extract 0 k).data.toList = s.data.toList.take k := by rw [ext_list]; simp
          have HPF := Lib.hid hpf
          have hks : ((k : Int) == (s.size : Int)) = false := by rw [beq_eq_false_iff_ne]; omega
          clear hc hpf
          by_cases hT2 : s.size < T.size
          · by_cases hT3 : T.data.toList.take s.size = s.data.toList
            · have HD : Hid (decE s.data.toList pad = 4) := Lib.hid (decE_4 heq (.inr (by rw [← hTl]; exact ⟨hT2, hT3⟩)))
              have h3 : ((T.extract 0 s.size).toList == s.toList) = true := str_eq (by rw [ext_list]; simpa using hT3)
              clear heq hTl hT3
              go_wp2_with (first | (go_at_call 25; (with_reducible refine (fn6_is hlt hx).mono ?_); rintro e w' ⟨rfl, rfl⟩) | (go_at_call 28; (with_reducible refine (HR.out _ _ HPF.out).mono ?_); rintro e w1 ⟨v1, rfl, hb1, hv1⟩; have HV1 := Lib.hid hv1; clear hv1) | (go_at_call 17; (with_reducible refine (HE.out _ _ HV1.out).mono ?_); rintro e w2 ⟨rfl, hb2⟩))
              go_ret2
              exact dec_no HD.out (by decide) (bthen hb1 hb2)
            · have HD : Hid (decE s.data.toList pad = 3) := Lib.hid (decE_3 heq (by rw [HN.out, size_list]; omega) (by rw [← hTl]; exact fun h => hT3 h.2))
              have h3 : ((T.extract 0 s.size).toList == s.toList) = false := str_ne (by rw [ext_list]; simpa using hT3)
              clear heq hTl hT3
              go_wp2_with (first | (go_at_call 25; (with_reducible refine (fn6_is hlt hx).mono ?_); rintro e w' ⟨rfl, rfl⟩) | (go_at_call 28; (with_reducible refine (HR.out _ _ HPF.out).mono ?_); rintro e w1 ⟨v1, rfl, hb1, hv1⟩; have HV1 := Lib.hid hv1; clear hv1) | (go_at_call 17; (with_reducible refine (HE.out _ _ HV1.out).mono ?_); rintro e w2 ⟨rfl, hb2⟩))
              go_ret2
              exact dec_no HD.out (by decide) (bthen hb1 hb2)
          · have HD : Hid (decE s.data.toList pad = 3) := Lib.hid (decE_3 heq (by rw [HN.out, size_list]; omega) (by rw [← hTl]; exact fun h => hT2 h.1))
            clear heq hTl
            go_wp2_with (first | (go_at_call 25; (with_reducible refine (fn6_is hlt hx).mono ?_); rintro e w' ⟨rfl, rfl⟩) | (go_at_call 28; (with_reducible refine (HR.out _ _ HPF.out).mono ?_); rintro e w1 ⟨v1, rfl, hb1, hv1⟩; have HV1 := Lib.hid hv1; clear hv1) | (go_at_call 17; (with_reducible refine (HE.out _ _ HV1.out).mono ?_); rintro e w2 ⟨rfl, hb2⟩))
            go_ret2
            exact dec_no HD.out (by decide) (bthen hb1 hb2)
        · obtain rfl : k = s.size := by omega
          have hpf : s.data.toList = s.data.toList.take s.size := (List.take_of_length_le (Nat.le_of_eq (size_list s))).symm
          have HPF := Lib.hid hpf
          have HD : Hid (decE s.data.toList pad = 4) := Lib.hid (decE_4 heq (.inl (by rw [HN.out, size_list])))
          clear hc hpf heq hTl
          go_wp2_with (first | (go_at_call 28; (with_reducible refine (HR.out _ _ HPF.out).mono ?_); rintro e w1 ⟨v1, rfl, hb1, hv1⟩; have HV1 := Lib.hid hv1; clear hv1) | (go_at_call 17; (with_reducible refine (HE.out _ _ HV1.out).mono ?_); rintro e w2 ⟨rfl, hb2⟩))
          go_ret2
          exact dec_no HD.out (by decide) (bthen hb1 hb2)
end Go.Proofs.Ytacmallcfaokpaa.Bas
