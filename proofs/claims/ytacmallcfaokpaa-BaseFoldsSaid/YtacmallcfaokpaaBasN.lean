/-
  The law's walk: BaseFolds.
-/
import Derived.Test.YtacmallcfaokpaaBasM
namespace Go.Proofs.Ytacmallcfaokpaa.Bas
open Go.RowKit SR

theorem pieces_get {s : ByteArray} {W m k : Nat} (h : k < m) : (pieces s W m).getD k ByteArray.empty = pc s W k := by
  unfold pieces
  rw [List.getD_eq_getElem?_getD, List.getElem?_map, List.getElem?_range h]; rfl
theorem sbuf_at {w : World} {base m : Nat} {v : Value} {s : ByteArray} {W : Nat} (hm : 0 < m) (h : SBuf w base v (pieces s W m)) : ∃ g cap, v = .slice (some ⟨g, 0, none⟩) m cap ∧ g < w.heap.size ∧ ∀ i, i < m → w.cell? ⟨g, i, none⟩ = some (.string (pc s W i)) := by
  rcases h.form with ⟨_, h2⟩ | ⟨g, cap, h1, _, _, _, h3, h4⟩
  · have := congrArg List.length h2
    rw [pieces_len] at this
    simp at this; omega
  · rw [pieces_len] at h1 h4
    exact ⟨g, cap, h1, h3, fun i hi => by rw [h4 i hi, pieces_get hi]⟩
theorem below_N {B : Nat} {a w : World} (h : Below B a w) (n : Nat) : Below B a (w.drewN n) := h.trans ⟨rfl, rfl, rfl, Nat.le_refl _, fun _ _ => rfl⟩
set_option maxRecDepth 100000 in
set_option maxHeartbeats 4000000 in
theorem folds_walk (s : ByteArray) (y : Int) (W : World) (hs : s.size ≤ 9223372036854775807) (hy : -9223372036854775808 ≤ y ∧ y ≤ 9223372036854775807) : Calls Try.prog 6 #[.string s, .int .i64 y] W fun e w' => e = .returned (.bool true) ∧ Below W.heap.size W w' := by
  by_cases h1 : 3000 < s.size
  · go_enter Try.func6, Try.ntmps6
    go_wp2_with (go_at_call 10; (with_reducible refine (awake_any _).mono ?_); rintro e w1 ⟨rfl, hb1⟩)
    go_ret
    exact ⟨rfl, hb1⟩
  by_cases h0 : s.size = 0
  · obtain rfl : s = ByteArray.empty := ba_ext (List.length_eq_zero_iff.1 h0)
    have A := Lib.hid (fun w => fold_nil y w hy)
    have B := Lib.hid (fun w => rfold_nil y w hy)
    clear h1 h0 hs
    go_enter Try.func6, Try.ntmps6
    go_wp2_with (first | (go_at_call 22; (with_reducible refine (A.out _).mono ?_); rintro e w1 ⟨rfl, rfl⟩) | (go_at_call 23; (with_reducible refine (B.out _).mono ?_); rintro e w1 ⟨rfl, rfl⟩))
    go_loop [7, 8] (fun t i => t = .string ⟨#[]⟩ ∧ i = .int .i64 0) (fun _ _ => 0)
    case atStart => exact ⟨rfl, rfl⟩
    case round =>
      obtain ⟨rfl, rfl⟩ := hrel
      go_wp2_with (go_at_call 10; (with_reducible refine (awake_any _).mono ?_); rintro e w1 ⟨rfl, hb1⟩)
      go_ret
      exact ⟨rfl, hb1⟩
  · obtain ⟨V, hV⟩ : ∃ V : Nat, (y < 1 ∧ V = s.size) ∨ (1 ≤ y ∧ y = (V : Int)) := by
      by_cases h : y < 1
      · exact ⟨_, .inl ⟨h, rfl⟩⟩
      · exact ⟨y.toNat, .inr ⟨by omega, by omega⟩⟩
    have hV1 : 1 ≤ V := by omega
    have A := Lib.hid (fun w => fold_any s y V w (by omega) (by omega) hy hV)
    have B := Lib.hid (fun w => rfold_any s y V w (by omega) (by omega) hy hV)
    have g0 : 0 < s.size := by omega
    have hs3 : s.size ≤ 3000 := by omega
    clear hV hy h0 h1 hs
    go_enter Try.func6, Try.ntmps6
    go_wp2_with (first
      | (go_at_call 22; (with_reducible refine (A.out _).mono ?_); rintro e w1 ⟨m, v1, rfl, hb1, hB1, hm1, hk1⟩; have hm0 : 0 < m := (by rcases Nat.eq_zero_or_pos m with h | h; subst h; unfold pf at hm1; simp at hm1; omega; exact h); have HB1 := Lib.hid hB1; have HM := Lib.hid hm1; have HK := Lib.hid hk1; have hmle := pf_ge hV1 hk1; rw [hm1] at hmle; clear hB1 hm1 hk1)
      | (go_at_call 23; (with_reducible refine (B.out _).mono ?_); rintro e w2 ⟨n, v2, rfl, hb2, hB2, hm2, hk2⟩; obtain rfl := pf_one HM.out HK.out hm2 hk2; obtain ⟨ga, cap1, rfl, hga, hca⟩ := sbuf_at hm0 (own_below HB1.out hb2); obtain ⟨gb, cap2, rfl, hgb, hcb⟩ := sbuf_at hm0 hB2; have HCA := Lib.hid hca; have HCB := Lib.hid hcb; clear hB2 hm2 hk2 hca hcb))
    go_loopw [7, 8] (fun t i wr => ∃ k : Nat, k ≤ m ∧ t = .string (s.extract 0 (pf s V k)) ∧ i = .int .i64 k ∧ ∃ n, wr = w2.drewN n) (fun _ i _ => m - (intOf i).toNat)
    case atStart => exact ⟨0, Nat.zero_le _, by rw [show pf s V 0 = 0 by unfold pf; simp]; exact congrArg Value.string (ba_ext (by rw [ext_list]; simp)), rfl, 0, rfl⟩
    case round =>
      obtain ⟨k, hk, rfl, rfl, dn, rfl⟩ := hrel
      by_cases hlt : k < m
      · have c1 := HCA.out k hlt
        have c2 := HCB.out k hlt
        have hkl := HK.out k hlt
        have hu := pf_succ hkl
        have HPC : Hid (pc s V k = s.extract (pf s V k) (pf s V (k + 1))) := Lib.hid rfl
        have hle := pf_le s V (k + 1)
        obtain ⟨L, HL⟩ : ∃ L, Hid (pc s V k = L) := ⟨_, Lib.hid rfl⟩
        rw [HL.out] at c1 c2 HPC
        have hLz : L.size = pf s V (k + 1) - pf s V k := by rw [HPC.out, ByteArray.size_extract]; omega
        have q1 : (L.toList == L.toList) = true := beq_self_eq_true _
        have q2 : L.toList.isEmpty = false := by
          cases h : L.toList.isEmpty with
          | false => rfl
          | true =>
            have h2 : L.toList = [] := by simpa using h
            rw [toList_data] at h2
            have h3 : L.data.toList.length = 0 := by rw [h2]; rfl
            rw [size_list] at h3
            omega
        have q3 : L.toList ≠ [] := by intro h; rw [h] at q2; cases q2
        have HT : Hid (s.extract 0 (pf s V k) ++ L = s.extract 0 (pf s V (k + 1))) := Lib.hid (by
          apply ba_ext
          rw [ByteArray.data_append, Array.toList_append, ext_list, ext_list, HPC.out, ext_list]
          simp only [List.drop_zero, Nat.sub_zero]
          obtain ⟨d, hd⟩ : ∃ d, pf s V (k + 1) = pf s V k + d := ⟨_, hu⟩
          rw [hd, List.take_add, Nat.add_sub_cancel_left])
        have hsz : (s.extract 0 (pf s V k)).size + L.size ≤ 9223372036854775807 := by rw [ByteArray.size_extract]; omega
        obtain ⟨X, HX⟩ : ∃ X, Hid (s.extract 0 (pf s V k) = X) := ⟨_, Lib.hid rfl⟩
        rw [HX.out] at HT hsz ⊢
        clear hu hLz hkl
        go_wp2
        go_quiet (fail)
        go_wp2
        go_roundw
        case rel => exact ⟨k + 1, hlt, by rw [HT.out], by go_num, _, rfl⟩
        case measure => simp [intOf]; omega
      · obtain rfl : k = m := by omega
        rw [HM.out, ext_0]
        go_wp2_with (go_at_call 10; (with_reducible refine (awake_any _).mono ?_); rintro e w9 ⟨rfl, hb9⟩)
        go_ret
        exact ⟨rfl, bthen (bthen hb1 hb2) ((below_N (Below.refl _ w2) dn).trans hb9)⟩
end Go.Proofs.Ytacmallcfaokpaa.Bas
