/-
  Contracts of package base's reference: base64 written.
-/
import Derived.Test.YtacmallcfaokpaaBasD
namespace Go.Proofs.Ytacmallcfaokpaa.Bas
open Go.RowKit
set_option linter.unusedVariables false
set_option linter.unusedSimpArgs false

theorem bit_is {v : Value} {l : List UInt8} {i : Nat} {w : World} {y : Int} {d : Nat} (h : Bs w w.heap.size v l) (hl : l.length ≤ 4000) (hi : i ≤ 100000) (hy : y = (i : Int)) (hd : Hid (bt l i = d)) : Calls Try.prog 26 #[v, .int .i64 y] w fun e w' => e = .returned (.int .i64 (d : Int)) ∧ w = w' := by
  subst hy
  have := bit_any v l i w h hl hi
  rwa [hd.out] at this
set_option maxRecDepth 100000 in
set_option maxHeartbeats 4000000 in
theorem renc_any (v : Value) (l : List UInt8) (pad : Bool) (w : World) (h : Bs w w.heap.size v l) (hl : l.length ≤ 4000) : Calls Try.prog 17 #[v, .bool pad] w fun e w' => e = .returned (.string ⟨(encP l pad).toArray⟩) ∧ Below w.heap.size w w' := by
  obtain ⟨n, hn⟩ : ∃ n, l.length = n := ⟨_, rfl⟩
  have HBv := Lib.hid h
  have hlen : ∀ (ty : TypeId) (w' : World), (Builtin.len_ #[22] ty #[v]).run Try.prog w' = .ok (.int .i64 n) w' := by
    intro ty w'
    rcases h with ⟨a0, c0, rfl, rfl⟩ | ⟨g, o, cap, rfl, hg, h1, h2, h3⟩
    · have : n = 0 := by rw [← hn]; rfl
      subst this
      exact run_len_slice w' 22 ty _ _ _ Try.underlying22
    · rw [← hn]; exact run_len_slice w' 22 ty _ _ _ Try.underlying22
  have hn4 : n ≤ 4000 := by omega
  have HN := Lib.hid hn
  have HL4 := Lib.hid hl
  clear h hn hl
  go_enter Try.func17, Try.ntmps17
  go_wp2
  go_loopw [5, 6] (fun t i wr => ∃ k q : Nat, k ≤ 8 * n + 5 ∧ k = 6 * q ∧ i = .int .i64 k ∧ Below w.heap.size w wr ∧ w.heap.size ≤ wr.heap.size ∧ Hid (Buf wr w.heap.size t (fd l q))) (fun _ i _ => 8 * n + 5 - (intOf i).toNat)
  case atStart => exact ⟨0, 0, by omega, rfl, rfl, Below.refl _ _, Nat.le_refl _, Lib.hid (Buf.nil _ _)⟩
  case round =>
    obtain ⟨k, q, hk, hkq, rfl, hb, hbs, HB⟩ := hrel
    have HW := Lib.hid ((HBv.out.below hb).mono hbs)
    have HKQ := Lib.hid hkq
    clear hkq
    by_cases hlt : k < 8 * n
    · have hltb : decide ((k : Int) < 8 * (n : Int)) = true := by simp; omega
      go_wp2
      go_loop [7, 8] (fun t i => ∃ c : Nat, c ≤ 6 ∧ i = .int .i64 ((k : Int) + (c : Int)) ∧ t = .int .i64 (vl (bt l) k c : Nat)) (fun _ i => k + 6 - (intOf i).toNat)
      case atStart => exact ⟨0, by omega, by go_num, rfl⟩
      case round =>
        obtain ⟨c, hc, rfl, rfl⟩ := hrel
        have hv := vl_lt (bt_bit l) k c
        by_cases h6 : c < 6
        · have HS : Hid (vl (bt l) k (c + 1) = 2 * vl (bt l) k c + bt l (k + c)) := Lib.hid rfl
          have hd2 := bt_bit l (k + c)
          obtain ⟨d, hd⟩ : ∃ d, Hid (bt l (k + c) = d) := ⟨_, Lib.hid rfl⟩
          obtain ⟨V, hV⟩ : ∃ V, Hid (vl (bt l) k c = V) := ⟨_, Lib.hid rfl⟩
          rw [hd.out] at HS hd2
          rw [hV.out] at HS hv ⊢
          have hV1 : V < 64 := Nat.lt_of_lt_of_le hv (Nat.pow_le_pow_right (by omega) (show c ≤ 6 by omega))
          have ho := or2 (h := V) (d := d) (by omega) hd2
          obtain ⟨P, hP⟩ : ∃ P, V * 2 + d = P := ⟨_, rfl⟩
          rw [hP] at ho
          have HP := Lib.hid hP
          clear hv hP
          go_wp2_with (go_at_call 26; (with_reducible refine (bit_is HW.out HL4.out (by omega) (i := k + c) (by omega) hd).mono ?_); rintro e w' ⟨rfl, rfl⟩)
          go_round
          case rel => exact ⟨c + 1, by omega, by go_num, by rw [HS.out, ← HP.out, Nat.mul_comm]⟩
          case measure => simp [intOf]; omega
        · obtain rfl : c = 6 := by omega
          have hd : vl (bt l) k 6 < 64 := hv
          have HS := Lib.hid (fd_succ l q)
          rw [← HKQ.out] at HS
          obtain ⟨d, hdd⟩ : ∃ d, Hid (vl (bt l) k 6 = d) := ⟨_, Lib.hid rfl⟩
          rw [hdd.out] at HS hd ⊢
          have HX := Lib.hid (td_cells (p := d) hd)
          have HL : Hid ((fd l q).length + [td d].length ≤ 100000000) := Lib.hid (by rw [fd_len]; have := HKQ.out; show _ + 1 ≤ _; omega)
          have b3 : (0 : Int) ≤ (d : Int) := by omega
          have b1 : (d : Int) < 64 := by omega
          clear hv
          go_wp2_with (at_builtin; refine wpList_app (by rfl) (.tmp 29) (.tmp 32) (by rfl) (by rfl) HB.out hb hbs [td d] (by rfl) HX.out (by rfl) (by simp) HL.out ?_; intro v' w' hB' hb' hbs'; have HB' := Lib.hid hB'; clear hB')
          go_roundw
          case rel => exact ⟨k + 6, q + 1, by omega, by have := HKQ.out; omega, by go_num, hb', hbs', Lib.hid (by rw [HS.out]; exact HB'.out)⟩
          case measure => simp [intOf]; omega
    · have HEN : ∃ N, Hid ((encL l).length = N) ∧ N ≤ 6000 := ⟨_, Lib.hid rfl, by rw [encL_len, HN.out]; omega⟩
      obtain ⟨N, HEN, hN⟩ := HEN
      have HQ : Hid (encL l = fd l q) := Lib.hid (by unfold encL; rw [HN.out]; congr 1; have := HKQ.out; omega)
      go_wp2
      go_loopw [5] (fun t wr => ∃ p : Nat, Hid (p ≤ pads pad N) ∧ Below w.heap.size w wr ∧ w.heap.size ≤ wr.heap.size ∧ Hid (Buf wr w.heap.size t (encR l p))) (fun t _ => N + 4 - slen t)
      case atStart => exact ⟨0, Lib.hid (Nat.zero_le _), hb, hbs, Lib.hid (by rw [encR_0, HQ.out]; exact HB.out)⟩
      case round =>
        obtain ⟨p, hp, hb, hbs, HB⟩ := hrel
        have hln := HB.out.run_len (encR_len HEN.out)
        cases pad
        · have HP : Hid (encR l p = encP l false) := Lib.hid (by have := hp.out; unfold pads at this; simp at this; subst this; unfold encP encR pads; simp)
          have hcv := HB.out.bs.conv 9 Try.underlying9
          rw [HP.out] at hcv
          go_wp2
          go_ret
          exact ⟨rfl, hb⟩
        · by_cases h4 : (N + p) % 4 = 0
          · have hne : (((N : Int) + (p : Int)) % 4 != 0) = false := by rw [bne_eq_false_iff_eq]; omega
            have HP : Hid (encR l p = encP l true) := Lib.hid (by
              have := hp.out; unfold pads at this; simp at this
              unfold encP encR pads; rw [HEN.out]; simp; congr 1; omega)
            have hcv := HB.out.bs.conv 9 Try.underlying9
            rw [HP.out] at hcv
            go_wp2
            go_ret
            exact ⟨rfl, hb⟩
          · have hne : (((N : Int) + (p : Int)) % 4 != 0) = true := by rw [bne_iff_ne]; omega
            have hp4 : p < 4 := by have := hp.out; unfold pads at this; simp at this; omega
            have HP : Hid (p + 1 ≤ pads true N) := Lib.hid (by have := hp.out; unfold pads at *; simp at *; omega)
            have HL : Hid ((encR l p).length + [(61 : UInt8)].length ≤ 100000000) := Lib.hid (by rw [encR_len HEN.out]; show _ + 1 ≤ _; omega)
            have HX : Hid (#[Value.int .u8 61] = (bc [61]).toArray) := Lib.hid rfl
            go_wp2_with (at_builtin; refine wpList_app (by rfl) (.tmp 41) (.tmp 42) (by rfl) (by rfl) HB.out hb hbs [61] (by rfl) HX.out (by rfl) (by simp) HL.out ?_; intro v' w' hB' hb' hbs'; have HB' := Lib.hid hB'; clear hB')
            have z1 := HB.out.slen (encR_len HEN.out)
            have z2 := HB'.out.slen (n := N + p + 1) (by rw [List.length_append, encR_len HEN.out]; rfl)
            go_roundw
            case rel => exact ⟨p + 1, HP, hb', hbs', Lib.hid (by rw [encR_succ]; exact HB'.out)⟩
            case measure => simp [z1, z2]; omega
end Go.Proofs.Ytacmallcfaokpaa.Bas
