/-
  The laws' walks: BaseEncodes, BaseDecodes, BaseBack.
-/
import Derived.Test.YtacmallcfaokpaaBasJ
namespace Go.Proofs.Ytacmallcfaokpaa.Bas
open Go.RowKit
set_option linter.unusedVariables false
set_option linter.unusedSimpArgs false

def sizeN (n : Int) (pad : Bool) : Int := if n < 0 ∨ 1048576 < n then 0 else if pad = true then (n + 2) / 3 * 4 else (n * 8 + 5) / 6
theorem size_f {n : Int} (h : ¬ n < 0) (h2 : ¬ 1048576 < n) : sizeN n false = (n * 8 + 5) / 6 := by
  unfold sizeN; rw [if_neg (by omega), if_neg (by simp)]
theorem size_t {n : Int} (h : ¬ n < 0) (h2 : ¬ 1048576 < n) : sizeN n true = (n + 2) / 3 * 4 := by
  unfold sizeN; rw [if_neg (by omega), if_pos rfl]
set_option maxHeartbeats 400000 in
theorem size_any (n : Int) (pad : Bool) (w : World) (hn : -9223372036854775808 ≤ n ∧ n ≤ 9223372036854775807) : Calls Try.prog 18 #[.int .i64 n, .bool pad] w fun e w' => e = .returned (.int .i64 (sizeN n pad)) ∧ w = w' := by
  by_cases h : n < 0
  · have HS : Hid (sizeN n pad = 0) := Lib.hid (by unfold sizeN; rw [if_pos (.inl h)])
    go_enter Try.func18, Try.ntmps18
    go_wp2
    go_ret
    exact ⟨ret_int HS.out.symm, rfl⟩
  by_cases h2 : 1048576 < n
  · have HS : Hid (sizeN n pad = 0) := Lib.hid (by unfold sizeN; rw [if_pos (.inr h2)])
    go_enter Try.func18, Try.ntmps18
    go_wp2
    go_ret
    exact ⟨ret_int HS.out.symm, rfl⟩
  cases pad
  · have HS := Lib.hid (size_f h h2)
    go_enter Try.func18, Try.ntmps18
    go_wp2
    go_ret
    exact ⟨ret_int (by rw [HS.out]), rfl⟩
  · have HS := Lib.hid (size_t h h2)
    go_enter Try.func18, Try.ntmps18
    go_wp2
    go_ret
    exact ⟨ret_int (by rw [HS.out]), rfl⟩
set_option maxHeartbeats 400000 in
theorem rsize_any (n : Int) (pad : Bool) (w : World) (hn : -9223372036854775808 ≤ n ∧ n ≤ 9223372036854775807) : Calls Try.prog 19 #[.int .i64 n, .bool pad] w fun e w' => e = .returned (.int .i64 (sizeN n pad)) ∧ w = w' := by
  by_cases h : n < 0
  · have HS : Hid (sizeN n pad = 0) := Lib.hid (by unfold sizeN; rw [if_pos (.inl h)])
    go_enter Try.func19, Try.ntmps19
    go_wp2
    go_ret
    exact ⟨ret_int HS.out.symm, rfl⟩
  by_cases h2 : 1048576 < n
  · have HS : Hid (sizeN n pad = 0) := Lib.hid (by unfold sizeN; rw [if_pos (.inr h2)])
    go_enter Try.func19, Try.ntmps19
    go_wp2
    go_ret
    exact ⟨ret_int HS.out.symm, rfl⟩
  cases pad
  · have HS := Lib.hid (size_f h h2)
    go_enter Try.func19, Try.ntmps19
    go_wp2
    go_ret
    exact ⟨ret_int (by rw [HS.out]; omega), rfl⟩
  · have HS := Lib.hid (size_t h h2)
    go_enter Try.func19, Try.ntmps19
    go_wp2
    go_ret
    exact ⟨ret_int (by rw [HS.out]), rfl⟩
set_option maxRecDepth 100000 in
set_option maxHeartbeats 4000000 in
theorem encodes_walk (a : Option Addr) (n cap : Nat) (z : List Int) (m : Int) (W : World) (hr : IsRow .u8 W a n cap z) (hm : -9223372036854775808 ≤ m ∧ m ≤ 9223372036854775807) : Calls Try.prog 4 #[.slice a n cap, .int .i64 m] W fun e w' => e = .returned (.bool true) ∧ Below W.heap.size W w' := by
  have hn := bl_len hr
  obtain ⟨hv, hlen⟩ := bs_row hr
  obtain ⟨l, hl⟩ : ∃ l, bl z n = l := ⟨_, rfl⟩
  rw [hl] at hv hlen
  have HV := Lib.hid hv
  have HL := Lib.hid hlen
  clear hv hl hr hlen
  by_cases h1 : 3000 < n
  · go_enter Try.func4, Try.ntmps4
    go_wp2_with (go_at_call 10; (with_reducible refine (awake_any _).mono ?_); rintro e w1 ⟨rfl, hb1⟩)
    go_ret
    exact ⟨rfl, hb1⟩
  have HL4 : Hid (l.length ≤ 4000) := Lib.hid (by rw [HL.out]; omega)
  have HB0 := Lib.hid (Below.refl W.heap.size W)
  have hm1 := hm.1
  have hm2 := hm.2
  have HM := Lib.hid hm
  clear hm
  obtain ⟨S0, HS0⟩ : ∃ x, Hid (sizeN m false = x) := ⟨_, Lib.hid rfl⟩
  obtain ⟨S1, HS1⟩ : ∃ x, Hid (sizeN m true = x) := ⟨_, Lib.hid rfl⟩
  have E0 := Lib.hid (fun w => size_any m false w HM.out)
  have E1 := Lib.hid (fun w => size_any m true w HM.out)
  have F0 := Lib.hid (fun w => rsize_any m false w HM.out)
  have F1 := Lib.hid (fun w => rsize_any m true w HM.out)
  rw [HS0.out] at E0 F0
  rw [HS1.out] at E1 F1
  go_enter Try.func4, Try.ntmps4
  go_wp2_with (first
    | (go_at_call 16; (with_reducible refine (enc_any _ l _ _ HV.out HL4.out).mono ?_); rintro e w1 ⟨rfl, hb1⟩; have HV2 := Lib.hid ((HV.out.below hb1).mono hb1.size); have HB1 := Lib.hid (bthen HB0.out hb1); clear hb1 HV HB0; have HV := HV2; have HB0 := HB1; clear HV2 HB1)
    | (go_at_call 17; (with_reducible refine (renc_any _ l _ _ HV.out HL4.out).mono ?_); rintro e w1 ⟨rfl, hb1⟩; have HV2 := Lib.hid ((HV.out.below hb1).mono hb1.size); have HB1 := Lib.hid (bthen HB0.out hb1); clear hb1 HV HB0; have HV := HV2; have HB0 := HB1; clear HV2 HB1)
    | (go_at_call 18; (first | (with_reducible refine (E0.out _).mono ?_) | (with_reducible refine (E1.out _).mono ?_)); rintro e w5 ⟨rfl, rfl⟩)
    | (go_at_call 19; (first | (with_reducible refine (F0.out _).mono ?_) | (with_reducible refine (F1.out _).mono ?_)); rintro e w5 ⟨rfl, rfl⟩)
    | (go_at_call 10; (with_reducible refine (awake_any _).mono ?_); rintro e w6 ⟨rfl, hb6⟩))
  go_ret
  exact ⟨rfl, bthen HB0.out hb6⟩
set_option maxRecDepth 100000 in
set_option maxHeartbeats 4000000 in
theorem decodes_walk (s : ByteArray) (W : World) (hs : s.size ≤ 9223372036854775807) : Calls Try.prog 5 #[.string s] W fun e w' => e = .returned (.bool true) ∧ Below W.heap.size W w' := by
  by_cases h1 : 3000 < s.size
  · go_enter Try.func5, Try.ntmps5
    go_wp2_with (go_at_call 10; (with_reducible refine (awake_any _).mono ?_); rintro e w1 ⟨rfl, hb1⟩)
    go_ret
    exact ⟨rfl, hb1⟩
  go_enter Try.func5, Try.ntmps5
  go_wp2_with (first
    | (go_at_call 20; (with_reducible refine (dec_any s false _ (by omega)).mono ?_); rintro e w1 ⟨v1, rfl, hb1, hv1⟩; have HPa := Lib.hid hv1; clear hv1)
    | (go_at_call 21; (with_reducible refine (rdec_any s false _ (by omega)).mono ?_); rintro e w2 ⟨v2, rfl, hb2, hv2⟩; have HQa := Lib.hid hv2; have HPb := Lib.hid ((HPa.out.below hb2).mono hb2.size); clear hv2)
    | (go_at_call 20; (with_reducible refine (dec_any s true _ (by omega)).mono ?_); rintro e w3 ⟨v3, rfl, hb3, hv3⟩; have HRa := Lib.hid hv3; have HPc := Lib.hid ((HPb.out.below hb3).mono hb3.size); have HQb := Lib.hid ((HQa.out.below hb3).mono hb3.size); clear hv3)
    | (go_at_call 21; (with_reducible refine (rdec_any s true _ (by omega)).mono ?_); rintro e w4 ⟨v4, rfl, hb4, hv4⟩; have HSa := Lib.hid hv4; have HPd := Lib.hid ((HPc.out.below hb4).mono hb4.size); have HQc := Lib.hid ((HQb.out.below hb4).mono hb4.size); have HRb := Lib.hid ((HRa.out.below hb4).mono hb4.size); clear hv4)
    | (go_at_call 15; (first | (with_reducible refine (same_t HPd.out HQc.out).mono ?_) | (with_reducible refine (same_t HRb.out HSa.out).mono ?_)); rintro e w5 ⟨rfl, rfl⟩)
    | (go_at_call 10; (with_reducible refine (awake_any _).mono ?_); rintro e w6 ⟨rfl, hb6⟩))
  go_ret
  exact ⟨rfl, bthen (bthen (bthen (bthen hb1 hb2) hb3) hb4) hb6⟩
theorem hexL_get (l : List UInt8) : ∀ j, j < l.length → (hexL l)[2 * j]? = some (hd ((l.getD j 0).toNat / 16)) ∧ (hexL l)[2 * j + 1]? = some (hd ((l.getD j 0).toNat % 16)) := by
  induction l with
  | nil => intro j hj; simp at hj
  | cons c l ih =>
    intro j hj
    rcases Nat.eq_zero_or_pos j with h | h
    · subst h; exact ⟨rfl, rfl⟩
    · obtain ⟨m, rfl⟩ : ∃ m, j = m + 1 := ⟨j - 1, by omega⟩
      have := ih m (by simpa using hj)
      rw [show 2 * (m + 1) = 2 * m + 2 by omega]
      simpa [hexL] using this
theorem ub_hd (c : UInt8) : ub (hd (c.toNat / 16)) (hd (c.toNat % 16)) = c := by
  apply UInt8.toNat_inj.1
  have := UInt8.toNat_lt c
  rw [ub_nat, hv_hd (by omega), hv_hd (by omega)]
  show c.toNat / 16 * 16 + c.toNat % 16 = _
  omega
theorem unN_hexL (l : List UInt8) {c q : Nat} (hc : 2 * q ≤ c) (hq : q ≤ l.length) : unN ((hexL l).take c) q = l.take q := by
  apply List.ext_getElem (by rw [unN_len, List.length_take]; omega)
  intro j h1 h2
  rw [unN_len] at h1
  obtain ⟨e1, e2⟩ := hexL_get l j (by omega)
  simp only [unN, List.getElem_map, List.getElem_range]
  rw [List.getD_eq_getElem?_getD, List.getD_eq_getElem?_getD, List.getElem?_take_of_lt (by omega), List.getElem?_take_of_lt (by omega), e1, e2, Option.getD_some, Option.getD_some, ub_hd, List.getElem_take, List.getD_eq_getElem?_getD, List.getElem?_eq_getElem (by omega)]
  rfl
theorem hexOk_hexL (l : List UInt8) (c : Nat) : hexOk ((hexL l).take c) = true := by
  have h : ∀ x ∈ hexL l, 0 ≤ hv x := by
    induction l with
    | nil => intro x hx; cases hx
    | cons b l ih =>
      have := UInt8.toNat_lt b
      intro x hx
      simp only [hexL, List.mem_cons] at hx
      rcases hx with rfl | rfl | hx
      · rw [hv_hd (by omega)]; omega
      · rw [hv_hd (by omega)]; omega
      · exact ih x hx
  unfold hexOk
  rw [List.all_eq_true]
  intro x hx
  simpa using h x (List.mem_of_mem_take hx)
/-- Of a cut hexadecimal text. -/
theorem un_cut (l : List UInt8) {c : Nat} (hc : c ≤ 2 * l.length) : (unE ((hexL l).take c) = 0 ∨ unE ((hexL l).take c) = 4) ∧ ∃ q, q ≤ l.length ∧ unR ((hexL l).take c) = l.take q := by
  have hl : ((hexL l).take c).length = c := by rw [List.length_take, hexL_len]; omega
  have hE : unE ((hexL l).take c) = if c % 2 = 1 then 4 else 0 := by
    unfold unE; rw [if_pos (hexOk_hexL l c), hl]
  by_cases h : c % 2 = 1
  · rw [if_pos h] at hE
    refine ⟨.inr hE, 0, by omega, ?_⟩
    unfold unR
    rw [hE]; rfl
  · rw [if_neg h] at hE
    refine ⟨.inl hE, c / 2, by omega, ?_⟩
    unfold unR
    rw [hE, if_pos rfl, hl]
    exact unN_hexL l (by omega) (by omega)
theorem un_back (l : List UInt8) : unE (hexL l) = 0 ∧ unR (hexL l) = l := by
  have ht : (hexL l).take (2 * l.length) = hexL l := List.take_of_length_le (by rw [hexL_len]; omega)
  have hE : unE (hexL l) = 0 := by
    have := hexOk_hexL l (2 * l.length)
    rw [ht] at this
    unfold unE; rw [if_pos this, hexL_len, if_neg (by omega)]
  refine ⟨hE, ?_⟩
  unfold unR
  rw [hE, if_pos rfl, hexL_len]
  have := unN_hexL l (c := 2 * l.length) (q := l.length) (by omega) (by omega)
  rw [ht, List.take_of_length_le (Nat.le_refl _)] at this
  rw [show 2 * l.length / 2 = l.length by omega]; exact this
theorem dec_back (l : List UInt8) (pad : Bool) : decE (encP l pad) pad = 0 ∧ decR (encP l pad) pad = l := by
  have h : by8 (dsL (encP l pad)) = l := by rw [dsL_encP, by8_sx]
  have hE : decE (encP l pad) pad = 0 := decE_0 (by rw [h])
  refine ⟨hE, ?_⟩
  unfold decR; rw [hE, if_pos rfl, h]
theorem encP_size (l : List UInt8) (pad : Bool) (h : l.length ≤ 4000) : ((encP l pad).length : Int) = sizeN l.length pad := by
  have h2 : ¬ ((l.length : Int) < 0 ∨ 1048576 < (l.length : Int)) := by omega
  unfold encP pads sizeN
  rw [List.length_append, List.length_replicate, encL_len, if_neg h2]
  obtain ⟨q, r, hq, hr⟩ : ∃ q r, l.length = 3 * q + r ∧ r < 3 := ⟨l.length / 3, l.length % 3, by omega, by omega⟩
  rw [hq]
  cases pad
  · simp; omega
  · rcases (show r = 0 ∨ r = 1 ∨ r = 2 by omega) with rfl | rfl | rfl
    · have e : (8 * (3 * q + 0) + 5) / 6 = 4 * q := by omega
      rw [e]; simp; omega
    · have e : (8 * (3 * q + 1) + 5) / 6 = 4 * q + 2 := by omega
      rw [e]; simp; omega
    · have e : (8 * (3 * q + 2) + 5) / 6 = 4 * q + 3 := by omega
      rw [e]; simp; omega
set_option maxRecDepth 100000 in
set_option maxHeartbeats 4000000 in
theorem back_walk (a : Option Addr) (n cap : Nat) (z : List Int) (pad : Bool) (W : World) (hr : IsRow .u8 W a n cap z) : Calls Try.prog 7 #[.slice a n cap, .bool pad] W fun e w' => e = .returned (.bool true) ∧ Below W.heap.size W w' := by
  have hn := bl_len hr
  obtain ⟨hv, hlen⟩ := bs_row hr
  obtain ⟨l, hl⟩ : ∃ l, bl z n = l := ⟨_, rfl⟩
  rw [hl] at hv hlen
  have HV := Lib.hid hv
  have HL := Lib.hid hlen
  clear hv hl hr hlen
  by_cases h1 : 3000 < n
  · go_enter Try.func7, Try.ntmps7
    go_wp2_with (go_at_call 10; (with_reducible refine (awake_any _).mono ?_); rintro e w1 ⟨rfl, hb1⟩)
    go_ret
    exact ⟨rfl, hb1⟩
  have HL4 : Hid (l.length ≤ 4000) := Lib.hid (by rw [HL.out]; omega)
  obtain ⟨H, hH⟩ : ∃ H : ByteArray, H = ⟨(hexL l).toArray⟩ := ⟨_, rfl⟩
  obtain ⟨T, hT⟩ : ∃ T : ByteArray, T = ⟨(encP l pad).toArray⟩ := ⟨_, rfl⟩
  have hHl : H.data.toList = hexL l := by rw [hH]
  have hTl : T.data.toList = encP l pad := by rw [hT]
  have hHs : H.size = 2 * n := by rw [← size_list, hHl, hexL_len, HL.out]
  have hTs : (T.size : Int) = sizeN n pad := by rw [← size_list, hTl, encP_size l pad HL4.out, HL.out]
  have hT8 : T.size ≤ 8000 := by
    have : sizeN n pad ≤ 8000 := by
      unfold sizeN
      rw [if_neg (by omega)]
      split <;> omega
    omega
  have HexC := Lib.hid (fun v w h => hex_any v l w h HL4.out)
  have EncC := Lib.hid (fun v w h => enc_any v l pad w h HL4.out)
  rw [← hH] at HexC
  rw [← hT] at EncC
  have UnC := Lib.hid (fun w => unhex_any H w (by omega))
  have DecC := Lib.hid (fun w => dec_any T pad w hT8)
  rw [hHl] at UnC
  rw [hTl] at DecC
  unfold UnPost at UnC
  unfold DecPost at DecC
  rw [(un_back l).1, (un_back l).2] at UnC
  rw [(dec_back l pad).1, (dec_back l pad).2] at DecC
  have SzC := Lib.hid (fun w => size_any n pad w (by omega))
  rw [← hTs] at SzC
  have q1 : ((H.size : Int) == 2 * (n : Int)) = true := by rw [beq_iff_eq]; omega
  have HB0 := Lib.hid (Below.refl W.heap.size W)
  have hH8 : H.size ≤ 8000 := by omega
  clear hH hT hHl hTl hHs hTs
  go_enter Try.func7, Try.ntmps7
  go_wp2_with (first
    | (go_at_call 13; (with_reducible refine (HexC.out _ _ HV.out).mono ?_); rintro e w1 ⟨rfl, hb1⟩; have HVa := Lib.hid ((HV.out.below hb1).mono hb1.size))
    | (go_at_call 16; (with_reducible refine (EncC.out _ _ HVa.out).mono ?_); rintro e w2 ⟨rfl, hb2⟩; have HVb := Lib.hid ((HVa.out.below hb2).mono hb2.size))
    | (go_at_call 11; (with_reducible refine (UnC.out _).mono ?_); rintro e w3 ⟨v3, rfl, hb3, hv3⟩; have HXa := Lib.hid hv3; have HVc := Lib.hid ((HVb.out.below hb3).mono hb3.size); clear hv3)
    | (go_at_call 20; (with_reducible refine (DecC.out _).mono ?_); rintro e w4 ⟨v4, rfl, hb4, hv4⟩; have HYa := Lib.hid hv4; have HVd := Lib.hid ((HVc.out.below hb4).mono hb4.size); have HXb := Lib.hid ((HXa.out.below hb4).mono hb4.size); clear hv4)
    | (go_at_call 15; (first | (with_reducible refine (same_t HXb.out HVd.out).mono ?_) | (with_reducible refine (same_t HYa.out HVd.out).mono ?_)); rintro e w5 ⟨rfl, rfl⟩)
    | (go_at_call 18; (with_reducible refine (SzC.out _).mono ?_); rintro e w5 ⟨rfl, rfl⟩)
    | (go_at_call 10; (with_reducible refine (awake_any _).mono ?_); rintro e w6 ⟨rfl, hb6⟩))
  go_ret
  exact ⟨rfl, bthen (bthen (bthen (bthen hb1 hb2) hb3) hb4) hb6⟩
end Go.Proofs.Ytacmallcfaokpaa.Bas
