/-
  The laws' walks: BaseOnly, BaseCut.
-/
import Derived.Test.YtacmallcfaokpaaBasK
namespace Go.Proofs.Ytacmallcfaokpaa.Bas
open Go.RowKit
set_option linter.unusedVariables false
set_option linter.unusedSimpArgs false

theorem unE_is (s : List UInt8) : unE s = 0 ∨ unE s = 3 ∨ unE s = 4 := by
  unfold unE; split
  · split
    · exact .inr (.inr rfl)
    · exact .inl rfl
  · exact .inr (.inl rfl)
theorem hexL_un {s : List UInt8} (h : unE s = 0) : hexL (unR s) = s := by
  have ho : hexOk s = true := by
    cases e : hexOk s with
    | true => rfl
    | false => unfold unE at h; rw [if_neg (by rw [e]; simp)] at h; cases h
  have he : s.length % 2 = 0 := by
    unfold unE at h
    rw [if_pos ho] at h
    by_cases h2 : s.length % 2 = 1
    · rw [if_pos h2] at h; cases h
    · omega
  unfold unR
  rw [if_pos h]
  have key : ∀ q, q ≤ s.length / 2 → hexL (unN s q) = s.take (2 * q) := by
    intro q
    induction q with
    | zero => intro _; simp [unN, hexL]
    | succ q ih =>
      intro hq
      have h1 : 2 * q < s.length := by omega
      have h2 : 2 * q + 1 < s.length := by omega
      rw [unN_succ, hexL_app, ih (by omega)]
      have g1 : s.getD (2 * q) 0 = s[2 * q] := by rw [List.getD_eq_getElem?_getD, List.getElem?_eq_getElem h1]; rfl
      have g2 : s.getD (2 * q + 1) 0 = s[2 * q + 1] := by rw [List.getD_eq_getElem?_getD, List.getElem?_eq_getElem h2]; rfl
      rw [g1, g2, show 2 * (q + 1) = 2 * q + 1 + 1 by omega, List.take_succ_eq_append_getElem h2, List.take_succ_eq_append_getElem h1, List.append_assoc]
      congr 1
      have ha : ∀ c ∈ s, 0 ≤ hv c := by
        intro c hc
        unfold hexOk at ho
        rw [List.all_eq_true] at ho
        simpa using ho c hc
      have v1 := ha _ (List.getElem_mem h1)
      have v2 := ha _ (List.getElem_mem h2)
      have w1 := hv_lt s[2 * q]
      have w2 := hv_lt s[2 * q + 1]
      have e1 : (ub s[2 * q] s[2 * q + 1]).toNat / 16 = (hv s[2 * q]).toNat := by rw [ub_nat]; omega
      have e2 : (ub s[2 * q] s[2 * q + 1]).toNat % 16 = (hv s[2 * q + 1]).toNat := by rw [ub_nat]; omega
      show [hd _, hd _] = _
      rw [e1, e2, hd_hv _ v1, hd_hv _ v2]; rfl
  rw [key _ (Nat.le_refl _), show 2 * (s.length / 2) = s.length by omega]
  exact List.take_of_length_le (Nat.le_refl _)
theorem decE_is (s : List UInt8) (pad : Bool) : decE s pad = 0 ∨ decE s pad = 3 ∨ decE s pad = 4 := by
  unfold decE
  split
  · split
    · exact .inl rfl
    · exact .inr (.inr rfl)
  · split
    · split
      · exact .inl rfl
      · split
        · exact .inr (.inr rfl)
        · exact .inr (.inl rfl)
    · exact .inr (.inl rfl)
/-- A text that is accepted is the text of what it says. -/
theorem decE_only {s : List UInt8} {pad : Bool} (h : decE s pad = 0) : encP (decR s pad) pad = s := by
  unfold decR
  rw [if_pos h]
  by_cases heq : encP (by8 (dsL s)) pad = s
  · exact heq
  · exfalso
    by_cases h1 : ne s = s.length ∨ (s.length < (encP (by8 (dsL s)) pad).length ∧ (encP (by8 (dsL s)) pad).take s.length = s)
    · rw [decE_4 heq h1] at h; cases h
    · have h2 : ne s ≠ s.length := fun e => h1 (.inl e)
      have h3 := fun e => h1 (.inr e)
      rw [decE_3 heq h2 h3] at h; cases h
theorem bs_len {w : World} {B : Nat} {v : Value} {l : List UInt8} (h : Bs w B v l) {n : Nat} (hn : l.length = n) : ∀ (ty : TypeId) (w' : World), (Builtin.len_ #[22] ty #[v]).run Try.prog w' = .ok (.int .i64 n) w' := by
  intro ty w'
  subst hn
  rcases h with ⟨a, c, rfl, rfl⟩ | ⟨g, o, cap, rfl, _⟩
  · exact run_len_slice w' 22 ty _ _ _ Try.underlying22
  · exact run_len_slice w' 22 ty _ _ _ Try.underlying22
theorem unR_err {s : List UInt8} (h : unE s ≠ 0) : unR s = [] := by unfold unR; rw [if_neg h]
theorem decR_err {s : List UInt8} {pad : Bool} (h : decE s pad ≠ 0) : decR s pad = [] := by unfold decR; rw [if_neg h]
theorem hex_short {s : List UInt8} (h : unE s = 0) : (unR s).length * 2 = s.length := by
  have := congrArg List.length (hexL_un h)
  rw [hexL_len] at this; omega
theorem dec_short {s : List UInt8} {pad : Bool} (hs : s.length ≤ 5000) : (decR s pad).length ≤ 4000 := by
  unfold decR
  split
  · rw [by8_len, dsL_len]
    have := ne_le s
    omega
  · simp
set_option maxRecDepth 100000 in
set_option maxHeartbeats 4000000 in
theorem only_walk (s : ByteArray) (pad : Bool) (W : World) (hs : s.size ≤ 9223372036854775807) : Calls Try.prog 8 #[.string s, .bool pad] W fun e w' => e = .returned (.bool true) ∧ Below W.heap.size W w' := by
  by_cases h1 : 3000 < s.size
  · go_enter Try.func8, Try.ntmps8
    go_wp2_with (go_at_call 10; (with_reducible refine (awake_any _).mono ?_); rintro e w1 ⟨rfl, hb1⟩)
    go_ret
    exact ⟨rfl, hb1⟩
  have UnC := Lib.hid (fun w => unhex_any s w (by omega))
  have DecC := Lib.hid (fun w => dec_any s pad w (by omega))
  unfold UnPost at UnC
  unfold DecPost at DecC
  have hd1 := decE_is s.data.toList pad
  have hu1 := unE_is s.data.toList
  have HDS : Hid ((decR s.data.toList pad).length ≤ 4000) := Lib.hid (dec_short (by rw [size_list]; omega))
  have HDO := Lib.hid (fun h => decE_only (s := s.data.toList) (pad := pad) h)
  have HDE := Lib.hid (fun h => decR_err (s := s.data.toList) (pad := pad) h)
  have HUO := Lib.hid (fun h => hexL_un (s := s.data.toList) h)
  have HUE := Lib.hid (fun h => unR_err (s := s.data.toList) h)
  have HUS : Hid ((unR s.data.toList).length ≤ 4000) := Lib.hid (by
    by_cases h : unE s.data.toList = 0
    · have := hex_short h
      rw [size_list] at this; omega
    · rw [unR_err h]; simp)
  obtain ⟨E, hE⟩ : ∃ E, unE s.data.toList = E := ⟨_, rfl⟩
  obtain ⟨D, hD⟩ : ∃ D, decE s.data.toList pad = D := ⟨_, rfl⟩
  rw [hE] at hu1 HUO HUE UnC
  rw [hD] at hd1 HDO HDE DecC
  generalize unR s.data.toList = X at *
  generalize decR s.data.toList pad = Y at *
  have hst : ∀ l : List UInt8, l = s.data.toList → (⟨l.toArray⟩ : ByteArray) = s := fun l h => ba_ext (by rw [h])
  have HST := Lib.hid hst
  clear hE hD hst
  have hs3 : s.size ≤ 3000 := by omega
  have HX : Hid (∀ v w, Bs w w.heap.size v X → E = 0 → Calls Try.prog 13 #[v] w fun e w' => e = .returned (.string s) ∧ Below w.heap.size w w') := Lib.hid fun v w h h0 => by
    have := hex_any v X w h HUS.out
    rwa [HST.out _ (HUO.out h0)] at this
  have HY : Hid (∀ v w, Bs w w.heap.size v Y → D = 0 → Calls Try.prog 16 #[v, .bool pad] w fun e w' => e = .returned (.string s) ∧ Below w.heap.size w w') := Lib.hid fun v w h h0 => by
    have := enc_any v Y pad w h HDS.out
    rwa [HST.out _ (HDO.out h0)] at this
  rcases hu1 with rfl | hu1
  · have HXs := Lib.hid (fun v w h => HX.out v w h rfl)
    clear HX
    rcases hd1 with rfl | hd1
    · have HYs := Lib.hid (fun v w h => HY.out v w h rfl)
      clear HY
      go_enter Try.func8, Try.ntmps8
      go_wp2_with (first
        | (go_at_call 11; (with_reducible refine (UnC.out _).mono ?_); rintro e w1 ⟨v1, rfl, hb1, hv1⟩; have HV1 := Lib.hid hv1; clear hv1)
        | (go_at_call 13; (with_reducible refine (HXs.out _ _ HV1.out).mono ?_); rintro e w2 ⟨rfl, hb2⟩)
        | (go_at_call 20; (with_reducible refine (DecC.out _).mono ?_); rintro e w3 ⟨v3, rfl, hb3, hv3⟩; have HV3 := Lib.hid hv3; clear hv3)
        | (go_at_call 16; (with_reducible refine (HYs.out _ _ HV3.out).mono ?_); rintro e w4 ⟨rfl, hb4⟩)
        | (go_at_call 10; (with_reducible refine (awake_any _).mono ?_); rintro e w6 ⟨rfl, hb6⟩))
      go_ret
      exact ⟨rfl, bthen (bthen (bthen (bthen hb1 hb2) hb3) hb4) hb6⟩
    · have hY := HDE.out (by omega)
      subst hY
      rcases hd1 with rfl | rfl
      all_goals
        go_enter Try.func8, Try.ntmps8
        go_wp2_with (first
          | (go_at_call 11; (with_reducible refine (UnC.out _).mono ?_); rintro e w1 ⟨v1, rfl, hb1, hv1⟩; have HV1 := Lib.hid hv1; clear hv1)
          | (go_at_call 13; (with_reducible refine (HXs.out _ _ HV1.out).mono ?_); rintro e w2 ⟨rfl, hb2⟩)
          | (go_at_call 20; (with_reducible refine (DecC.out _).mono ?_); rintro e w3 ⟨v3, rfl, hb3, hv3⟩; have hl3 := bs_len hv3 (n := 0) rfl; clear hv3)
          | (go_at_call 10; (with_reducible refine (awake_any _).mono ?_); rintro e w6 ⟨rfl, hb6⟩))
        go_ret
        exact ⟨rfl, bthen (bthen (bthen hb1 hb2) hb3) hb6⟩
  · have hX := HUE.out (by omega)
    subst hX
    rcases hd1 with rfl | hd1
    · have HYs := Lib.hid (fun v w h => HY.out v w h rfl)
      clear HY
      rcases hu1 with rfl | rfl
      all_goals
        go_enter Try.func8, Try.ntmps8
        go_wp2_with (first
          | (go_at_call 11; (with_reducible refine (UnC.out _).mono ?_); rintro e w1 ⟨v1, rfl, hb1, hv1⟩; have hl1 := bs_len hv1 (n := 0) rfl; clear hv1)
          | (go_at_call 20; (with_reducible refine (DecC.out _).mono ?_); rintro e w3 ⟨v3, rfl, hb3, hv3⟩; have HV3 := Lib.hid hv3; clear hv3)
          | (go_at_call 16; (with_reducible refine (HYs.out _ _ HV3.out).mono ?_); rintro e w4 ⟨rfl, hb4⟩)
          | (go_at_call 10; (with_reducible refine (awake_any _).mono ?_); rintro e w6 ⟨rfl, hb6⟩))
        go_ret
        exact ⟨rfl, bthen (bthen (bthen hb1 hb3) hb4) hb6⟩
    · have hY := HDE.out (by omega)
      subst hY
      rcases hu1 with rfl | rfl <;> rcases hd1 with rfl | rfl
      all_goals
        go_enter Try.func8, Try.ntmps8
        go_wp2_with (first
          | (go_at_call 11; (with_reducible refine (UnC.out _).mono ?_); rintro e w1 ⟨v1, rfl, hb1, hv1⟩; have hl1 := bs_len hv1 (n := 0) rfl; clear hv1)
          | (go_at_call 20; (with_reducible refine (DecC.out _).mono ?_); rintro e w3 ⟨v3, rfl, hb3, hv3⟩; have hl3 := bs_len hv3 (n := 0) rfl; clear hv3)
          | (go_at_call 10; (with_reducible refine (awake_any _).mono ?_); rintro e w6 ⟨rfl, hb6⟩))
        go_ret
        exact ⟨rfl, bthen (bthen hb1 hb3) hb6⟩
/-- Of a cut base64 text. -/
theorem dec_cut (l : List UInt8) (pad : Bool) {c : Nat} (hc : c ≤ (encP l pad).length) : (decE ((encP l pad).take c) pad = 0 ∨ decE ((encP l pad).take c) pad = 4) ∧ ∃ q, q ≤ l.length ∧ decR ((encP l pad).take c) pad = l.take q := by
  have hLs : (encL l).length = (sx l).length := by rw [encL_len, sx_len]
  obtain ⟨s, hs⟩ : ∃ s, (encP l pad).take c = s := ⟨_, rfl⟩
  rw [hs]
  obtain ⟨m, hm, hmc, hds, hdr⟩ : ∃ m, m ≤ (sx l).length ∧ ne s = m ∧ dsL s = (sx l).take m ∧ (s.length = m ∨ (m = (sx l).length ∧ ∃ k, 0 < k ∧ k ≤ pads pad m ∧ s.drop m = List.replicate k 61)) := by
    by_cases h : c ≤ (encL l).length
    · have e : s = (encL l).take c := by rw [← hs]; unfold encP; rw [List.take_append_of_le_length h]
      have hsl : s.length = c := by rw [e, List.length_take]; omega
      have hne : ne s = c := by
        have h3 : ∀ x ∈ s, 0 ≤ dv x := by
          intro x hx
          rw [e] at hx
          exact encL_dv l x (List.mem_of_mem_take hx)
        have := ne_app (a := s) (b := []) h3 (by intro c h; cases h)
        rw [List.append_nil] at this
        rw [this, hsl]
      refine ⟨c, by omega, hne, ?_, .inl hsl⟩
      unfold dsL
      rw [hne, e, List.take_take, Nat.min_self, encL_sx, ← List.map_take, map_dv_td]
      intro x hx
      exact sx_lt l x (List.mem_of_mem_take hx)
    · have e : s = encL l ++ List.replicate (c - (encL l).length) 61 := by
        rw [← hs]
        unfold encP at hc ⊢
        rw [List.length_append, List.length_replicate] at hc
        rw [List.take_append, List.take_of_length_le (by omega), List.take_replicate, Nat.min_eq_left (by omega)]
      have hne : ne s = (encL l).length := by rw [e]; exact ne_app (encL_dv l) (rep_head _)
      have htk : s.take (encL l).length = encL l := by rw [e]; exact List.take_left
      have hdp : s.drop (encL l).length = List.replicate (c - (encL l).length) 61 := by rw [e]; exact List.drop_left
      refine ⟨(encL l).length, by omega, hne, ?_, .inr ⟨hLs, c - (encL l).length, by omega, ?_, hdp⟩⟩
      · unfold dsL
        rw [hne, htk, encL_sx, map_dv_td (sx_lt l), List.length_map, List.take_of_length_le (Nat.le_refl _)]
      · unfold encP at hc
        rw [List.length_append, List.length_replicate] at hc
        omega
  have hby : by8 (dsL s) = l.take (6 * m / 8) := by rw [hds, by8_take _ _ hm, by8_sx]
  constructor
  · unfold decE
    rw [hmc]
    rcases hdr with h | ⟨h1, k, hk0, hk1, hk2⟩
    · rw [if_pos h.symm]
      split
      · exact .inl rfl
      · exact .inr rfl
    · have hlen : m ≠ s.length := by
        intro e
        have := congrArg List.length hk2
        rw [List.length_drop] at this
        simp at this; omega
      have hp : pad = true := by
        cases pad
        · unfold pads at hk1; simp at hk1; omega
        · rfl
      subst hp
      have h5 : m % 4 ≠ 0 := by
        intro e
        unfold pads at hk1
        rw [if_pos rfl, e] at hk1
        simp at hk1; omega
      have h6 : pads true m = 4 - m % 4 := by
        unfold pads; rw [if_pos rfl]; omega
      have hw : whole (dsL s) = true := by
        rw [hds, h1, List.take_of_length_le (Nat.le_refl _)]; exact whole_sx l
      rw [if_neg hlen, if_pos (by rw [hw]; simpa using h5), hk2]
      split
      · exact .inl rfl
      · rw [if_pos]
        · exact .inr rfl
        · rw [prefix_rep]
          simp; omega
  · unfold decR
    split
    · refine ⟨min (6 * m / 8) l.length, Nat.min_le_right _ _, ?_⟩
      rw [hby]
      by_cases h : 6 * m / 8 ≤ l.length
      · rw [Nat.min_eq_left h]
      · rw [Nat.min_eq_right (by omega), List.take_of_length_le (by omega), List.take_of_length_le (Nat.le_refl _)]
    · exact ⟨0, by omega, rfl⟩
/-- A slice of bytes, cut. -/
theorem bs_take {w : World} {B : Nat} {g o cap : Nat} {l : List UInt8} (h : Bs w B (.slice (some ⟨g, o, none⟩) l.length cap) l) {q : Nat} (hq : q ≤ l.length) : Bs w B (.slice (some ⟨g, o, none⟩) q cap) (l.take q) := by
  rcases h with ⟨a, c, hv, rfl⟩ | ⟨g', o', cap', hv, hg, hl, hm, hc⟩
  · have : q = 0 := by simpa using hq
    subst this
    exact .inl ⟨_, _, rfl, by simp⟩
  · injection hv with h1 h2 h3
    injection h1 with h1
    injection h1 with h1 h4
    subst h1 h4 h3
    have e : (l.take q).length = q := by rw [List.length_take]; omega
    refine .inr ⟨g, o, cap, by rw [e], hg, by rw [e]; omega, hm, fun i hi => ?_⟩
    rw [e] at hi
    rw [hc i (by omega), List.getD_eq_getElem?_getD, List.getD_eq_getElem?_getD, List.getElem?_take_of_lt hi]
theorem bs_z (w : World) (B : Nat) (a : Option Addr) (cap : Nat) (l : List UInt8) : Bs w B (.slice a 0 cap) (l.take 0) := .inl ⟨_, _, rfl, by simp⟩
set_option maxRecDepth 100000 in
set_option maxHeartbeats 4000000 in
theorem cut_row (a : Option Addr) (n cap : Nat) (l : List UInt8) (pad : Bool) (cut : Int) (W : World) (hv : Bs W W.heap.size (.slice a n cap) l) (hlen : l.length = n) (h3 : n ≤ 3000) (hn0 : n = 0 ∨ ∃ g o, a = some ⟨g, o, none⟩ ∧ n ≤ cap) (hcut : 0 ≤ cut ∧ cut ≤ 65535) : Calls Try.prog 9 #[.slice a n cap, .bool pad, .int .u16 cut] W fun e w' => e = .returned (.bool true) ∧ Below W.heap.size W w' := by
  have HV := Lib.hid hv
  have HL4 : Hid (l.length ≤ 4000) := Lib.hid (by omega)
  have HL := Lib.hid hlen
  obtain ⟨H, hH⟩ : ∃ H : ByteArray, H = ⟨(hexL l).toArray⟩ := ⟨_, rfl⟩
  obtain ⟨T, hT⟩ : ∃ T : ByteArray, T = ⟨(encP l pad).toArray⟩ := ⟨_, rfl⟩
  have hHl : H.data.toList = hexL l := by rw [hH]
  have hTl : T.data.toList = encP l pad := by rw [hT]
  have hHs : H.size = 2 * n := by rw [← size_list, hHl, hexL_len, HL.out]
  have hTs : (T.size : Int) = sizeN n pad := by rw [← size_list, hTl, encP_size l pad HL4.out, HL.out]
  have hT8 : T.size ≤ 8000 := by
    have : sizeN n pad ≤ 8000 := by
      unfold sizeN
      rw [if_neg (by omega)]
      split <;> omega
    omega
  have hTe : T.size = (encP l pad).length := by rw [← size_list, hTl]
  have HexC := Lib.hid (fun v w h => hex_any v l w h HL4.out)
  have EncC := Lib.hid (fun v w h => enc_any v l pad w h HL4.out)
  rw [← hH] at HexC
  rw [← hT] at EncC
  obtain ⟨c1, hc1⟩ : ∃ c : Nat, cut % ((H.size : Int) + 1) = (c : Int) := Int.eq_ofNat_of_zero_le (Int.emod_nonneg _ (by omega))
  obtain ⟨c2, hc2⟩ : ∃ c : Nat, cut % ((T.size : Int) + 1) = (c : Int) := Int.eq_ofNat_of_zero_le (Int.emod_nonneg _ (by omega))
  have hc1l : c1 ≤ H.size := by have := Int.emod_lt_of_pos cut (show 0 < (H.size : Int) + 1 by omega); omega
  have hc2l : c2 ≤ T.size := by have := Int.emod_lt_of_pos cut (show 0 < (T.size : Int) + 1 by omega); omega
  obtain ⟨hu1, q1, hq1, hu2⟩ := un_cut l (c := c1) (by omega)
  obtain ⟨hd1, q2, hq2, hd2⟩ := dec_cut l pad (c := c2) (by omega)
  have UnC := Lib.hid (fun w => unhex_any (H.extract 0 c1) w (by rw [ByteArray.size_extract]; omega))
  have DecC := Lib.hid (fun w => dec_any (T.extract 0 c2) pad w (by rw [ByteArray.size_extract]; omega))
  rw [ext_list, hHl, List.drop_zero, Nat.sub_zero] at UnC
  rw [ext_list, hTl, List.drop_zero, Nat.sub_zero] at DecC
  unfold UnPost at UnC
  unfold DecPost at DecC
  rw [hu2] at UnC
  rw [hd2] at DecC
  obtain ⟨E, hE⟩ : ∃ E, unE ((hexL l).take c1) = E := ⟨_, rfl⟩
  obtain ⟨D, hD⟩ : ∃ D, decE ((encP l pad).take c2) pad = D := ⟨_, rfl⟩
  rw [hE] at hu1 UnC
  rw [hD] at hd1 DecC
  rw [hlen] at hq1 hq2
  have HQ1 : Hid ((l.take q1).length = q1) := Lib.hid (by rw [List.length_take]; omega)
  have HQ2 : Hid ((l.take q2).length = q2) := Lib.hid (by rw [List.length_take]; omega)
  have hT9 : T.size ≤ 8000 := hT8
  have hH9 : H.size ≤ 8000 := by omega
  have hcuta := hcut.1
  have hcutb := hcut.2
  clear hv hH hT hHl hTl hHs hTs hTe hu2 hd2 hE hD hcut hT8 hlen
  have fin : Hid (∀ (w : World) (B q : Nat), q ≤ n → Bs w B (.slice a n cap) l → Bs w B (.slice a q cap) (l.take q)) := Lib.hid (by
    intro w B q hq h
    rcases hn0 with h0 | ⟨g, o, rfl, _⟩
    · have : q = 0 := by omega
      subst this
      exact .inl ⟨_, _, rfl, by simp⟩
    · have e := HL.out
      have h' : Bs w B (.slice (some ⟨g, o, none⟩) l.length cap) l := by rw [e]; exact h
      exact bs_take h' (by omega))
  rcases hn0 with h0 | ⟨g, o, rfl, hcap⟩
  · subst h0
    have h01 : q1 = 0 := by omega
    have h02 : q2 = 0 := by omega
    subst h01 h02
    rcases hu1 with rfl | rfl <;> rcases hd1 with rfl | rfl
    all_goals
      go_enter Try.func9, Try.ntmps9
      go_wp2_with (first
        | (go_at_call 13; (with_reducible refine (HexC.out _ _ HV.out).mono ?_); rintro e w1 ⟨rfl, hb1⟩; have HVa := Lib.hid ((HV.out.below hb1).mono hb1.size))
        | (go_at_call 16; (with_reducible refine (EncC.out _ _ HVa.out).mono ?_); rintro e w2 ⟨rfl, hb2⟩; have HVb := Lib.hid ((HVa.out.below hb2).mono hb2.size))
        | (go_at_call 11; (with_reducible refine (UnC.out _).mono ?_); rintro e w3 ⟨v3, rfl, hb3, hv3⟩; have HXa := Lib.hid hv3; have hl3 := bs_len hv3 HQ1.out; have HVc := Lib.hid ((HVb.out.below hb3).mono hb3.size); clear hv3)
        | (go_at_call 20; (with_reducible refine (DecC.out _).mono ?_); rintro e w4 ⟨v4, rfl, hb4, hv4⟩; have HYa := Lib.hid hv4; have hl4 := bs_len hv4 HQ2.out; have HVd := Lib.hid ((HVc.out.below hb4).mono hb4.size); have HXb := Lib.hid ((HXa.out.below hb4).mono hb4.size); clear hv4)
        | (go_at_call 15; (first | (with_reducible refine (same_t HXb.out (bs_z _ 0 _ _ _)).mono ?_) | (with_reducible refine (same_t HYa.out (bs_z _ 0 _ _ _)).mono ?_)); rintro e w5 ⟨rfl, rfl⟩)
        | (go_at_call 10; (with_reducible refine (awake_any _).mono ?_); rintro e w6 ⟨rfl, hb6⟩))
      go_ret
      exact ⟨rfl, bthen (bthen (bthen (bthen hb1 hb2) hb3) hb4) hb6⟩
  · have hq1c : q1 ≤ cap := by omega
    have hq2c : q2 ≤ cap := by omega
    rcases hu1 with rfl | rfl <;> rcases hd1 with rfl | rfl
    all_goals
      go_enter Try.func9, Try.ntmps9
      go_wp2_with (first
        | (go_at_call 13; (with_reducible refine (HexC.out _ _ HV.out).mono ?_); rintro e w1 ⟨rfl, hb1⟩; have HVa := Lib.hid ((HV.out.below hb1).mono hb1.size))
        | (go_at_call 16; (with_reducible refine (EncC.out _ _ HVa.out).mono ?_); rintro e w2 ⟨rfl, hb2⟩; have HVb := Lib.hid ((HVa.out.below hb2).mono hb2.size))
        | (go_at_call 11; (with_reducible refine (UnC.out _).mono ?_); rintro e w3 ⟨v3, rfl, hb3, hv3⟩; have HXa := Lib.hid hv3; have hl3 := bs_len hv3 HQ1.out; have HVc := Lib.hid ((HVb.out.below hb3).mono hb3.size); clear hv3)
        | (go_at_call 20; (with_reducible refine (DecC.out _).mono ?_); rintro e w4 ⟨v4, rfl, hb4, hv4⟩; have HYa := Lib.hid hv4; have hl4 := bs_len hv4 HQ2.out; have HVd := Lib.hid ((HVc.out.below hb4).mono hb4.size); have HXb := Lib.hid ((HXa.out.below hb4).mono hb4.size); clear hv4)
        | (go_at_call 15; (first | (with_reducible refine (same_t HXb.out (fin.out _ _ q1 hq1 HVd.out)).mono ?_) | (with_reducible refine (same_t HYa.out (fin.out _ _ q2 hq2 HVd.out)).mono ?_)); rintro e w5 ⟨rfl, rfl⟩)
        | (go_at_call 10; (with_reducible refine (awake_any _).mono ?_); rintro e w6 ⟨rfl, hb6⟩))
      go_ret
      exact ⟨rfl, bthen (bthen (bthen (bthen hb1 hb2) hb3) hb4) hb6⟩
theorem cut_walk (a : Option Addr) (n cap : Nat) (z : List Int) (pad : Bool) (cut : Int) (W : World) (hr : IsRow .u8 W a n cap z) (hcut : 0 ≤ cut ∧ cut ≤ 65535) : Calls Try.prog 9 #[.slice a n cap, .bool pad, .int .u16 cut] W fun e w' => e = .returned (.bool true) ∧ Below W.heap.size W w' := by
  by_cases h1 : 3000 < n
  · have hn := bl_len hr
    clear hr
    go_enter Try.func9, Try.ntmps9
    go_wp2_with (go_at_call 10; (with_reducible refine (awake_any _).mono ?_); rintro e w1 ⟨rfl, hb1⟩)
    go_ret
    exact ⟨rfl, hb1⟩
  · obtain ⟨hv, hlen⟩ := bs_row hr
    refine cut_row a n cap _ pad cut W hv hlen (by omega) ?_ hcut
    rcases Nat.eq_zero_or_pos n with h0 | h0
    · exact .inl h0
    · obtain ⟨b, off, v, hx, _⟩ := hr.at_ h0
      refine .inr ⟨b, off, hx, ?_⟩
      rcases hr with ⟨rfl, rfl, rfl, rfl⟩ | ⟨x, rfl, hl, _⟩ <;> omega
end Go.Proofs.Ytacmallcfaokpaa.Bas
