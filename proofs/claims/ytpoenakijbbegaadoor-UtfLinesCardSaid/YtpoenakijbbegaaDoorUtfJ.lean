/-
  The law's walk: UtfLines.
-/
import Derived.Test.YtpoenakijbbegaaDoorUtfI
namespace Go.Proofs.YtpoenakijbbegaaDoor.Utf
open Go.RowKit
set_option linter.unusedVariables false
set_option linter.unusedSimpArgs false

theorem lcells_at {w : World} {base m : Nat} {v : Value} (s : ByteArray) (hm : 0 < m) (h : w.ownsRow base 9 1 v m (lcells s m)) : ∃ g cap, v = .slice (some ⟨g, 0, none⟩) m cap ∧ ∀ i, i < m → w.cell? ⟨g, i, none⟩ = some (.string (lin s i)) := by
  rcases h.2 with ⟨_, h0⟩ | ⟨g, cap, _, rfl, _⟩
  · omega
  · refine ⟨g, cap, rfl, fun i hi => ?_⟩
    rw [World.ownsRow.cellAt h i (by omega)]
    unfold lcells
    rw [List.getElem?_map, List.getElem?_range (by omega)]; rfl
theorem lcells_nil {w : World} {base : Nat} {v : Value} (s : ByteArray) (h : w.ownsRow base 9 1 v 0 (lcells s 0)) : ∃ a cap, v = .slice a 0 cap := by
  rcases h.2 with ⟨rfl, _⟩ | ⟨g, cap, _, rfl, _⟩
  · exact ⟨_, _, rfl⟩
  · exact ⟨_, _, rfl⟩
set_option maxRecDepth 100000 in
set_option maxHeartbeats 4000000 in
theorem lines_walk (s : ByteArray) (w : World) (hT : Tabs w) (hs : s.size ≤ 9223372036854775807) : Calls Tryd.prog 8 #[.string s] w fun e w' => e = .returned (.bool true) ∧ Below w.heap.size w w' := by
  have hb := Below.refl w.heap.size w
  by_cases g1 : s.size ≤ 4096
  case neg =>
    go_enter Tryd.func8, Tryd.ntmps8
    go_wp2_with (go_at_call 12; (with_reducible refine (awake_any _ (hT.below hb)).mono ?_); rintro e w9 ⟨rfl, hb9⟩; replace hb := bthen hb hb9; clear hb9)
    go_ret
    exact ⟨rfl, hb⟩
  go_enter Tryd.func8, Tryd.ntmps8
  have hA := Lib.hid (fun w => lines_any s w g1)
  have hB := Lib.hid (fun w => rlines_any s w g1)
  by_cases g0 : s.size = 0
  · have HZ := Lib.hid g0
    go_wp2_with (first | (go_at_call 31; (with_reducible refine (hA.out _).mono ?_); rintro e w1 ⟨m, v, rfl, hb1, hown1, hm1, hk1⟩; have hm0 : m = 0 := (by rcases Nat.eq_zero_or_pos m with h | h; exact h; have := hk1 0 h; omega); subst hm0; obtain ⟨a1, cap1, rfl⟩ := lcells_nil s hown1; clear hown1 hm1 hk1; replace hb := bthen hb hb1; clear hb1) | (go_at_call 32; (with_reducible refine (hB.out _).mono ?_); rintro e w2 ⟨m, v, rfl, hb1, hown1, hm1, hk1⟩; have hm0 : m = 0 := (by rcases Nat.eq_zero_or_pos m with h | h; exact h; have := hk1 0 h; omega); subst hm0; obtain ⟨a2, cap2, rfl⟩ := lcells_nil s hown1; clear hown1 hm1 hk1; replace hb := bthen hb hb1; clear hb1))
    go_loopw [5, 6] (fun a i wr => a = .int .i64 0 ∧ i = .int .i64 0 ∧ wr = w2) (fun _ _ _ => 0)
    case atStart => exact ⟨rfl, rfl, rfl⟩
    case round =>
      obtain ⟨rfl, rfl, rfl⟩ := hrel
      go_wp2_with (go_at_call 12; (with_reducible refine (awake_any _ (hT.below hb)).mono ?_); rintro e w9 ⟨rfl, hb9⟩; replace hb := bthen hb hb9; clear hb9)
      go_ret
      exact ⟨rfl, hb⟩
  · have g2 : 0 < s.size := by omega
    go_wp2_with (first | (go_at_call 31; (with_reducible refine (hA.out _).mono ?_); rintro e w1 ⟨m, v, rfl, hb1, hown1, hm1, hk1⟩; have hb1' := Lib.hid hb1; have hm0 : 0 < m := (by rcases Nat.eq_zero_or_pos m with h | h; subst h; exact absurd (show 0 = s.size from hm1) (by omega); exact h); have HO1 := Lib.hid hown1; obtain ⟨ga, cap1, rfl, _⟩ := lcells_at s hm0 hown1; have HM := Lib.hid hm1; have HK := Lib.hid hk1; clear hown1 hm1 hk1; replace hb := bthen hb hb1; clear hb1) | (go_at_call 32; (with_reducible refine (hB.out _).mono ?_); rintro e w2 ⟨n, v, rfl, hb1, hown1, hm1, hk1⟩; obtain rfl := (loff_one HM.out hm1 HK.out hk1); have hown2 := own_below HO1.out hb1; obtain ⟨gb, cap2, rfl, hcb⟩ := lcells_at s hm0 hown1; obtain ⟨ga', cap1', hga, hca⟩ := lcells_at s hm0 hown2; injection hga with hga1 hga2 hga3; injection hga1 with hga4; injection hga4 with hga5; subst hga5; have HCA := Lib.hid hca; have HCB := Lib.hid hcb; clear hown1 hown2 hm1 hk1 hga2 hga3 hca hcb; replace hb := bthen hb hb1; clear hb1))
    have hm9 : m ≤ 4096 := by have := loff_ge HK.out; rw [HM.out] at this; omega
    go_loopw [5, 6] (fun a i wr => ∃ k : Nat, k ≤ m ∧ a = .int .i64 (loff s.data.toList k : Nat) ∧ i = .int .i64 k ∧ wr = w2) (fun _ i _ => m - (intOf i).toNat)
    case atStart => exact ⟨0, Nat.zero_le _, rfl, rfl, rfl⟩
    case round =>
      obtain ⟨k, hk, rfl, rfl, rfl⟩ := hrel
      by_cases hlt : k < m
      · have c1 := HCA.out k hlt
        have c2 := HCB.out k hlt
        have hq := loff_lt (HK.out k hlt)
        have hle := loff_le s.data.toList (k + 1)
        rw [size_list] at hle
        obtain ⟨L, HL⟩ : ∃ L, Hid (lin s k = L) := ⟨_, rfl⟩
        rw [HL.out] at c1 c2
        have hLd := HL.out
        unfold lin at hLd
        obtain ⟨p, HP⟩ : ∃ p, Hid (loff s.data.toList k = p) := ⟨_, rfl⟩
        obtain ⟨q, HQ⟩ : ∃ q, Hid (loff s.data.toList (k + 1) = q) := ⟨_, rfl⟩
        rw [HP.out, HQ.out] at hLd
        rw [HP.out, HQ.out] at hq
        rw [HQ.out] at hle
        rw [HP.out]
        have hLz : L.size = q - p := by rw [← hLd, ByteArray.size_extract]; omega
        have hz1 : p + L.size ≤ s.size := by omega
        have hz2 : 0 < L.size := by omega
        have q1 : (L.toList == L.toList) = true := beq_self_eq_true _
        have q2 : L.toList.isEmpty = false := by
          rw [toList_data]
          cases h : L.data.toList.isEmpty with
          | false => rfl
          | true =>
            have h2 : L.data.toList = [] := by simpa using h
            have h3 : L.data.toList.length = 0 := by rw [h2]; rfl
            rw [size_list] at h3; omega
        have q3 : ((s.extract p (p + L.size)).toList == L.toList) = true := by
          rw [show p + L.size = q by omega, hLd]; exact beq_self_eq_true _
        have HPQ : Hid (q = p + L.size) := Lib.hid (by omega)
        have HLD := Lib.hid hLd
        have HLZ := Lib.hid hLz
        have hlast : L.size - 1 < L.size := Nat.sub_lt hz2 (by decide)
        have hrel : ∃ k_1 : Nat, k_1 ≤ m ∧ Value.int .i64 ((p : Int) + (L.size : Int)) = Value.int .i64 (loff s.data.toList k_1 : Nat) ∧ Value.int .i64 ((k : Int) + 1) = Value.int .i64 (k_1 : Nat) := ⟨k + 1, hlt, by rw [HQ.out, HPQ.out]; rfl, rfl⟩
        by_cases hn : k + 1 < m
        · have q4 : ((L[L.size - 1]'hlast).toNat != 10) = false := by
            have h1 := HK.out (k + 1) hn
            rw [HQ.out] at h1
            have h2 := loff_succ s.data.toList k
            rw [HP.out, HQ.out] at h2
            have h3 : fln (s.data.toList.drop p) = L.size := by omega
            have h4 := fln_last (l := s.data.toList.drop p) (by rw [h3, List.length_drop, size_list]; omega)
            rw [h3] at h4
            have h5 : L.data.toList = (s.data.toList.drop p).take L.size := by
              rw [← hLd, ext_list]; congr 1; rw [ByteArray.size_extract]; omega
            have h6 : L.data.toList[L.size - 1]? = some 10 := by rw [h5, List.getElem?_take, if_pos (by omega)]; exact h4
            rw [List.getElem?_eq_getElem (by rw [size_list]; omega)] at h6
            have h7 : L[L.size - 1]'hlast = 10 := Option.some.inj h6
            rw [h7]; rfl
          have q5 : (((L[L.size - 1]'hlast).toNat : Int) != 10) = false := by
            rw [bne_eq_false_iff_eq] at q4 ⊢; omega
          clear hLd hLz hq hle
          go_wp2
          go_roundw
          case rel => obtain ⟨k_1, e1, e2, e3⟩ := hrel; exact ⟨k_1, e1, e2, e3, by trivial⟩
          case measure => simp [intOf]; omega
        · clear hLd hLz hq hle
          go_wp2
          go_roundw
          case rel => obtain ⟨k_1, e1, e2, e3⟩ := hrel; exact ⟨k_1, e1, e2, e3, by trivial⟩
          case measure => simp [intOf]; omega
      · obtain rfl : k = m := by omega
        rw [HM.out]
        go_wp2_with (go_at_call 12; (with_reducible refine (awake_any _ (hT.below hb)).mono ?_); rintro e w9 ⟨rfl, hb9⟩; replace hb := bthen hb hb9; clear hb9)
        go_ret
        exact ⟨rfl, hb⟩
end Go.Proofs.YtpoenakijbbegaaDoor.Utf
