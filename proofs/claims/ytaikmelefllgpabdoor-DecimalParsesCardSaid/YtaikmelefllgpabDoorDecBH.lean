/-
  Package decimal: the reference's Parse at any string; the law DecimalParses.
-/
import Derived.Test.YtaikmelefllgpabDoorDecBF0
import Derived.Test.YtaikmelefllgpabDoorDecBF1
import Derived.Test.YtaikmelefllgpabDoorDecBF2
import Derived.Test.YtaikmelefllgpabDoorDecBF3
import Derived.Test.YtaikmelefllgpabDoorDecBG
import Derived.Test.YtaikmelefllgpabDoorDecE
namespace Go.Proofs.YtaikmelefllgpabDoor.Dec
open Go.RowKit
set_option linter.unusedVariables false
set_option linter.unusedSimpArgs false
open Go.Proofs.YtaikmelefllgpabDoor.Dig

theorem expo_bd2 {l : List UInt8} {x : Int} (h : expo 1000000000 l = some x) : -1099511627776 ≤ x ∧ x ≤ 1099511627776 := by
  rcases expo_caps l with ⟨a, b⟩ | ⟨y, a, b, c, d⟩ | ⟨y, z, a, b, c, d, e, f, g⟩
  · rw [b] at h; cases h
  · rw [b] at h; cases h; omega
  · rw [b] at h; cases h; omega
theorem rprs_m (s : ByteArray) (w : World) (hs : s.size ≤ 1000) (h0 : 0 < s.size) (hg : (s[0]).toNat = 45) : Calls Tryd.prog 6 #[.string s] w fun e w' => e = rR (prs 1000000000 s.data.toList) ∧ Below w.heap.size w w' := by
  have hll : s.data.toList.length = s.size := rfl
  have hh := head_at s h0
  have hL : l1 s.data.toList = s.data.toList.drop 1 := by
    unfold l1
    rw [hh]
    rw [if_pos (by rw [u8_of (by decide) hg]; rfl)]
  have hG : ng s.data.toList = true := by
    unfold ng
    rw [hh]
    exact decide_eq_true (by rw [u8_of (by decide) hg]; rfl)
  have hr := rn_le (l := s.data.toList) (k := 1) (by omega)
  obtain ⟨k1, hk1⟩ : ∃ k1, rn s.data.toList 1 = k1 := ⟨_, rfl⟩
  rw [hk1] at hr
  have HR1 := run_at s 1 k1 hs (by omega) hk1
  have hd : dlL (s.data.toList.drop 1) = k1 - 1 := by unfold rn at hk1; omega
  have has : (s.extract 1 k1).size ≤ 1000 := by rw [ByteArray.size_extract]; omega
  have hda : digs ((s.data.toList.drop 1).take (k1 - 1)) = true := by rw [← hd]; exact dlL_digs _
  unfold prs pp
  rw [hL, hG, hd, List.drop_drop, List.drop_drop, List.drop_drop, show 1 + (k1 - 1) = k1 by omega, show 1 + (k1 - 1 + 1) = k1 + 1 by omega, show ∀ m, 1 + (k1 - 1 + 1 + m) = k1 + 1 + m by intro m; omega]
  by_cases hk : k1 = 1
  · rw [if_pos (.inl (by omega))]
    rw [hk] at HR1
    exact re_m0 s w h0 hg HR1
  · have hi : 1 < s.size := by omega
    have hhi := head_k s 1 hi
    by_cases hz : (s.data.toList.drop 1).head? = some 48
    · have hw48 : ∀ hh : 1 < s.size, (s[1]).toNat = 48 := fun _ => by
        rw [hhi] at hz
        rw [Option.some.inj hz]; rfl
      by_cases hwk : k1 = 2
      · rw [if_neg (fun h => h.elim (by omega) (fun h => by omega))]
        by_cases hp : (s.data.toList.drop k1).head? = some 46
        · have hks : k1 < s.size := by
            rcases Nat.lt_or_ge k1 s.size with q1 | q1
            · exact q1
            · rw [List.drop_eq_nil_of_le (by omega)] at hp; cases hp
          have hfk : ∀ hh : k1 < s.size, (s[k1]'hh).toNat = 46 := fun hh => by
            rw [head_k s k1 hh] at hp
            rw [Option.some.inj hp]; rfl
          obtain ⟨p1, hp1⟩ : ∃ p1, k1 + 1 = p1 := ⟨_, rfl⟩
          rw [if_pos hp, hp1]
          have hr2 := rn_le (l := s.data.toList) (k := p1) (by omega)
          obtain ⟨j, hj⟩ : ∃ j, rn s.data.toList p1 = j := ⟨_, rfl⟩
          rw [hj] at hr2
          have hm : dlL (s.data.toList.drop p1) = j - p1 := by unfold rn at hj; omega
          rw [hm, show p1 + (j - p1) = j by omega]
          by_cases hj0 : j = p1
          · rw [if_pos (by omega)]
            exact re_mfz s _ k1 w hs h0 hg (by omega) (by omega) HR1 rfl has hw48 hwk p1 hp1 hfk hks (run_at s p1 p1 hs (by omega) (by omega))
          · rw [if_neg (by omega)]
            have HR2 := run_at s p1 j hs (by omega) hj
            have hfz : (s.extract p1 j).size ≤ 1000 := by rw [ByteArray.size_extract]; omega
            cases hx : expo 1000000000 (s.data.toList.drop j) with
            | none => exact rp_mz1_er s _ k1 w hs h0 hg (by omega) (by omega) HR1 rfl has hw48 hwk _ j p1 hp1 hfk hks (by omega) (by omega) HR2 rfl hfz (Lib.hid (wer s j hs (by omega) hx))
            | some x =>
              have hb := expo_bd2 hx
              have hN : Num (s.extract 1 k1 ++ s.extract p1 j) (val ((s.data.toList.drop 1).take (k1 - 1) ++ (s.data.toList.drop p1).take (j - p1))) := by
                have e : (s.extract 1 k1 ++ s.extract p1 j).data.toList = (s.data.toList.drop 1).take (k1 - 1) ++ (s.data.toList.drop p1).take (j - p1) := by
                  rw [ByteArray.data_append, Array.toList_append, ex_kj, ex_kj]
                have hdf : digs ((s.data.toList.drop p1).take (j - p1)) = true := by rw [← hm]; exact dlL_digs _
                exact ⟨by rw [e]; exact digs_app hda hdf, by rw [e]⟩
              have HM := fun w => norm_any true (s.extract 1 k1 ++ s.extract p1 j) _ (((p1 : Int) - (j : Int)) + x) w hN (by rw [ByteArray.size_append]; omega) (by omega)
              have := rp_mz1_ok s _ k1 w hs h0 hg (by omega) (by omega) HR1 rfl has hw48 hwk _ j p1 hp1 hfk hks (by omega) (by omega) HR2 rfl hfz (((p1 : Int) - (j : Int)) + x) _ _ _ _ (Lib.hid (wok_1 s j p1 j hs (by omega) x _ hx rfl)) (Lib.hid HM)
              simp only []
              rw [show x - ((j - p1 : Nat) : Int) = ((p1 : Int) - (j : Int)) + x by omega]
              exact this
        · have hnf : ∀ hh : k1 < s.size, (s[k1]'hh).toNat ≠ 46 := fun hh e => hp (by rw [head_k s k1 hh, u8_of (by decide) e]; rfl)
          rw [if_neg hp]
          cases hx : expo 1000000000 (s.data.toList.drop k1) with
          | none => exact rp_mz0_er s _ k1 w hs h0 hg (by omega) (by omega) HR1 rfl has hw48 hwk hnf (Lib.hid (wer s k1 hs (by omega) hx))
          | some x =>
            have hb := expo_bd2 hx
            have hN : Num (s.extract 1 k1) (val ((s.data.toList.drop 1).take (k1 - 1))) := ⟨by rw [ex_kj]; exact hda, by rw [ex_kj]⟩
            have HM := fun w => norm_any true (s.extract 1 k1) _ x w hN (by omega) (by omega)
            exact rp_mz0_ok s _ k1 w hs h0 hg (by omega) (by omega) HR1 rfl has hw48 hwk hnf x _ _ _ _ (Lib.hid (wok_0 s k1 hs (by omega) x x hx rfl)) (Lib.hid HM)
      · rw [if_pos (.inr ⟨by omega, hz⟩)]
        exact re_m1 s k1 w h0 hg (by omega) (by omega) HR1 hw48
    · have hw48 : ∀ hh : 1 < s.size, (s[1]).toNat ≠ 48 := fun _ e => hz (by rw [hhi, u8_of (by decide) e]; rfl)
      rw [if_neg (fun h => h.elim (by omega) (fun h => hz h.2))]
      by_cases hp : (s.data.toList.drop k1).head? = some 46
      · have hks : k1 < s.size := by
          rcases Nat.lt_or_ge k1 s.size with q1 | q1
          · exact q1
          · rw [List.drop_eq_nil_of_le (by omega)] at hp; cases hp
        have hfk : ∀ hh : k1 < s.size, (s[k1]'hh).toNat = 46 := fun hh => by
          rw [head_k s k1 hh] at hp
          rw [Option.some.inj hp]; rfl
        obtain ⟨p1, hp1⟩ : ∃ p1, k1 + 1 = p1 := ⟨_, rfl⟩
        rw [if_pos hp, hp1]
        have hr2 := rn_le (l := s.data.toList) (k := p1) (by omega)
        obtain ⟨j, hj⟩ : ∃ j, rn s.data.toList p1 = j := ⟨_, rfl⟩
        rw [hj] at hr2
        have hm : dlL (s.data.toList.drop p1) = j - p1 := by unfold rn at hj; omega
        rw [hm, show p1 + (j - p1) = j by omega]
        by_cases hj0 : j = p1
        · rw [if_pos (by omega)]
          exact re_mfn s _ k1 w hs h0 hg (by omega) (by omega) HR1 rfl has hw48 p1 hp1 hfk hks (run_at s p1 p1 hs (by omega) (by omega))
        · rw [if_neg (by omega)]
          have HR2 := run_at s p1 j hs (by omega) hj
          have hfz : (s.extract p1 j).size ≤ 1000 := by rw [ByteArray.size_extract]; omega
          cases hx : expo 1000000000 (s.data.toList.drop j) with
          | none => exact rp_mn1_er s _ k1 w hs h0 hg (by omega) (by omega) HR1 rfl has hw48 _ j p1 hp1 hfk hks (by omega) (by omega) HR2 rfl hfz (Lib.hid (wer s j hs (by omega) hx))
          | some x =>
            have hb := expo_bd2 hx
            have hN : Num (s.extract 1 k1 ++ s.extract p1 j) (val ((s.data.toList.drop 1).take (k1 - 1) ++ (s.data.toList.drop p1).take (j - p1))) := by
              have e : (s.extract 1 k1 ++ s.extract p1 j).data.toList = (s.data.toList.drop 1).take (k1 - 1) ++ (s.data.toList.drop p1).take (j - p1) := by
                rw [ByteArray.data_append, Array.toList_append, ex_kj, ex_kj]
              have hdf : digs ((s.data.toList.drop p1).take (j - p1)) = true := by rw [← hm]; exact dlL_digs _
              exact ⟨by rw [e]; exact digs_app hda hdf, by rw [e]⟩
            have HM := fun w => norm_any true (s.extract 1 k1 ++ s.extract p1 j) _ (((p1 : Int) - (j : Int)) + x) w hN (by rw [ByteArray.size_append]; omega) (by omega)
            have := rp_mn1_ok s _ k1 w hs h0 hg (by omega) (by omega) HR1 rfl has hw48 _ j p1 hp1 hfk hks (by omega) (by omega) HR2 rfl hfz (((p1 : Int) - (j : Int)) + x) _ _ _ _ (Lib.hid (wok_1 s j p1 j hs (by omega) x _ hx rfl)) (Lib.hid HM)
            simp only []
            rw [show x - ((j - p1 : Nat) : Int) = ((p1 : Int) - (j : Int)) + x by omega]
            exact this
      · have hnf : ∀ hh : k1 < s.size, (s[k1]'hh).toNat ≠ 46 := fun hh e => hp (by rw [head_k s k1 hh, u8_of (by decide) e]; rfl)
        rw [if_neg hp]
        cases hx : expo 1000000000 (s.data.toList.drop k1) with
        | none => exact rp_mn0_er s _ k1 w hs h0 hg (by omega) (by omega) HR1 rfl has hw48 hnf (Lib.hid (wer s k1 hs (by omega) hx))
        | some x =>
          have hb := expo_bd2 hx
          have hN : Num (s.extract 1 k1) (val ((s.data.toList.drop 1).take (k1 - 1))) := ⟨by rw [ex_kj]; exact hda, by rw [ex_kj]⟩
          have HM := fun w => norm_any true (s.extract 1 k1) _ x w hN (by omega) (by omega)
          exact rp_mn0_ok s _ k1 w hs h0 hg (by omega) (by omega) HR1 rfl has hw48 hnf x _ _ _ _ (Lib.hid (wok_0 s k1 hs (by omega) x x hx rfl)) (Lib.hid HM)
theorem rprs_p (s : ByteArray) (w : World) (hs : s.size ≤ 1000) (h0 : 0 < s.size) (hg : (s[0]).toNat ≠ 45) : Calls Tryd.prog 6 #[.string s] w fun e w' => e = rR (prs 1000000000 s.data.toList) ∧ Below w.heap.size w w' := by
  have hll : s.data.toList.length = s.size := rfl
  have hh := head_at s h0
  have hL : l1 s.data.toList = s.data.toList.drop 0 := by
    unfold l1
    rw [hh]
    rw [if_neg (fun e => hg (by rw [Option.some.inj e]; rfl))]; rfl
  have hG : ng s.data.toList = false := by
    unfold ng
    rw [hh]
    exact decide_eq_false (fun e => hg (by rw [Option.some.inj e]; rfl))
  have hr := rn_le (l := s.data.toList) (k := 0) (by omega)
  obtain ⟨k1, hk1⟩ : ∃ k1, rn s.data.toList 0 = k1 := ⟨_, rfl⟩
  rw [hk1] at hr
  have HR1 := run_at s 0 k1 hs (by omega) hk1
  have hd : dlL (s.data.toList.drop 0) = k1 - 0 := by unfold rn at hk1; omega
  have has : (s.extract 0 k1).size ≤ 1000 := by rw [ByteArray.size_extract]; omega
  have hda : digs ((s.data.toList.drop 0).take (k1 - 0)) = true := by rw [← hd]; exact dlL_digs _
  unfold prs pp
  rw [hL, hG, hd, List.drop_drop, List.drop_drop, List.drop_drop, show 0 + (k1 - 0) = k1 by omega, show 0 + (k1 - 0 + 1) = k1 + 1 by omega, show ∀ m, 0 + (k1 - 0 + 1 + m) = k1 + 1 + m by intro m; omega]
  by_cases hk : k1 = 0
  · rw [if_pos (.inl (by omega))]
    rw [hk] at HR1
    exact re_p0 s w h0 hg HR1
  · have hi : 0 < s.size := by omega
    have hhi := head_k s 0 hi
    by_cases hz : (s.data.toList.drop 0).head? = some 48
    · have hw48 : ∀ hh : 0 < s.size, (s[0]).toNat = 48 := fun _ => by
        rw [hhi] at hz
        rw [Option.some.inj hz]; rfl
      by_cases hwk : k1 = 1
      · rw [if_neg (fun h => h.elim (by omega) (fun h => by omega))]
        by_cases hp : (s.data.toList.drop k1).head? = some 46
        · have hks : k1 < s.size := by
            rcases Nat.lt_or_ge k1 s.size with q1 | q1
            · exact q1
            · rw [List.drop_eq_nil_of_le (by omega)] at hp; cases hp
          have hfk : ∀ hh : k1 < s.size, (s[k1]'hh).toNat = 46 := fun hh => by
            rw [head_k s k1 hh] at hp
            rw [Option.some.inj hp]; rfl
          obtain ⟨p1, hp1⟩ : ∃ p1, k1 + 1 = p1 := ⟨_, rfl⟩
          rw [if_pos hp, hp1]
          have hr2 := rn_le (l := s.data.toList) (k := p1) (by omega)
          obtain ⟨j, hj⟩ : ∃ j, rn s.data.toList p1 = j := ⟨_, rfl⟩
          rw [hj] at hr2
          have hm : dlL (s.data.toList.drop p1) = j - p1 := by unfold rn at hj; omega
          rw [hm, show p1 + (j - p1) = j by omega]
          by_cases hj0 : j = p1
          · rw [if_pos (by omega)]
            exact re_pfz s _ k1 w hs h0 hg (by omega) (by omega) HR1 rfl has hw48 hwk p1 hp1 hfk hks (run_at s p1 p1 hs (by omega) (by omega))
          · rw [if_neg (by omega)]
            have HR2 := run_at s p1 j hs (by omega) hj
            have hfz : (s.extract p1 j).size ≤ 1000 := by rw [ByteArray.size_extract]; omega
            cases hx : expo 1000000000 (s.data.toList.drop j) with
            | none => exact rp_pz1_er s _ k1 w hs h0 hg (by omega) (by omega) HR1 rfl has hw48 hwk _ j p1 hp1 hfk hks (by omega) (by omega) HR2 rfl hfz (Lib.hid (wer s j hs (by omega) hx))
            | some x =>
              have hb := expo_bd2 hx
              have hN : Num (s.extract 0 k1 ++ s.extract p1 j) (val ((s.data.toList.drop 0).take (k1 - 0) ++ (s.data.toList.drop p1).take (j - p1))) := by
                have e : (s.extract 0 k1 ++ s.extract p1 j).data.toList = (s.data.toList.drop 0).take (k1 - 0) ++ (s.data.toList.drop p1).take (j - p1) := by
                  rw [ByteArray.data_append, Array.toList_append, ex_kj, ex_kj]
                have hdf : digs ((s.data.toList.drop p1).take (j - p1)) = true := by rw [← hm]; exact dlL_digs _
                exact ⟨by rw [e]; exact digs_app hda hdf, by rw [e]⟩
              have HM := fun w => norm_any false (s.extract 0 k1 ++ s.extract p1 j) _ (((p1 : Int) - (j : Int)) + x) w hN (by rw [ByteArray.size_append]; omega) (by omega)
              have := rp_pz1_ok s _ k1 w hs h0 hg (by omega) (by omega) HR1 rfl has hw48 hwk _ j p1 hp1 hfk hks (by omega) (by omega) HR2 rfl hfz (((p1 : Int) - (j : Int)) + x) _ _ _ _ (Lib.hid (wok_1 s j p1 j hs (by omega) x _ hx rfl)) (Lib.hid HM)
              simp only []
              rw [show x - ((j - p1 : Nat) : Int) = ((p1 : Int) - (j : Int)) + x by omega]
              exact this
        · have hnf : ∀ hh : k1 < s.size, (s[k1]'hh).toNat ≠ 46 := fun hh e => hp (by rw [head_k s k1 hh, u8_of (by decide) e]; rfl)
          rw [if_neg hp]
          cases hx : expo 1000000000 (s.data.toList.drop k1) with
          | none => exact rp_pz0_er s _ k1 w hs h0 hg (by omega) (by omega) HR1 rfl has hw48 hwk hnf (Lib.hid (wer s k1 hs (by omega) hx))
          | some x =>
            have hb := expo_bd2 hx
            have hN : Num (s.extract 0 k1) (val ((s.data.toList.drop 0).take (k1 - 0))) := ⟨by rw [ex_kj]; exact hda, by rw [ex_kj]⟩
            have HM := fun w => norm_any false (s.extract 0 k1) _ x w hN (by omega) (by omega)
            exact rp_pz0_ok s _ k1 w hs h0 hg (by omega) (by omega) HR1 rfl has hw48 hwk hnf x _ _ _ _ (Lib.hid (wok_0 s k1 hs (by omega) x x hx rfl)) (Lib.hid HM)
      · rw [if_pos (.inr ⟨by omega, hz⟩)]
        exact re_p1 s k1 w h0 hg (by omega) (by omega) HR1 hw48
    · have hw48 : ∀ hh : 0 < s.size, (s[0]).toNat ≠ 48 := fun _ e => hz (by rw [hhi, u8_of (by decide) e]; rfl)
      rw [if_neg (fun h => h.elim (by omega) (fun h => hz h.2))]
      by_cases hp : (s.data.toList.drop k1).head? = some 46
      · have hks : k1 < s.size := by
          rcases Nat.lt_or_ge k1 s.size with q1 | q1
          · exact q1
          · rw [List.drop_eq_nil_of_le (by omega)] at hp; cases hp
        have hfk : ∀ hh : k1 < s.size, (s[k1]'hh).toNat = 46 := fun hh => by
          rw [head_k s k1 hh] at hp
          rw [Option.some.inj hp]; rfl
        obtain ⟨p1, hp1⟩ : ∃ p1, k1 + 1 = p1 := ⟨_, rfl⟩
        rw [if_pos hp, hp1]
        have hr2 := rn_le (l := s.data.toList) (k := p1) (by omega)
        obtain ⟨j, hj⟩ : ∃ j, rn s.data.toList p1 = j := ⟨_, rfl⟩
        rw [hj] at hr2
        have hm : dlL (s.data.toList.drop p1) = j - p1 := by unfold rn at hj; omega
        rw [hm, show p1 + (j - p1) = j by omega]
        by_cases hj0 : j = p1
        · rw [if_pos (by omega)]
          exact re_pfn s _ k1 w hs h0 hg (by omega) (by omega) HR1 rfl has hw48 p1 hp1 hfk hks (run_at s p1 p1 hs (by omega) (by omega))
        · rw [if_neg (by omega)]
          have HR2 := run_at s p1 j hs (by omega) hj
          have hfz : (s.extract p1 j).size ≤ 1000 := by rw [ByteArray.size_extract]; omega
          cases hx : expo 1000000000 (s.data.toList.drop j) with
          | none => exact rp_pn1_er s _ k1 w hs h0 hg (by omega) (by omega) HR1 rfl has hw48 _ j p1 hp1 hfk hks (by omega) (by omega) HR2 rfl hfz (Lib.hid (wer s j hs (by omega) hx))
          | some x =>
            have hb := expo_bd2 hx
            have hN : Num (s.extract 0 k1 ++ s.extract p1 j) (val ((s.data.toList.drop 0).take (k1 - 0) ++ (s.data.toList.drop p1).take (j - p1))) := by
              have e : (s.extract 0 k1 ++ s.extract p1 j).data.toList = (s.data.toList.drop 0).take (k1 - 0) ++ (s.data.toList.drop p1).take (j - p1) := by
                rw [ByteArray.data_append, Array.toList_append, ex_kj, ex_kj]
              have hdf : digs ((s.data.toList.drop p1).take (j - p1)) = true := by rw [← hm]; exact dlL_digs _
              exact ⟨by rw [e]; exact digs_app hda hdf, by rw [e]⟩
            have HM := fun w => norm_any false (s.extract 0 k1 ++ s.extract p1 j) _ (((p1 : Int) - (j : Int)) + x) w hN (by rw [ByteArray.size_append]; omega) (by omega)
            have := rp_pn1_ok s _ k1 w hs h0 hg (by omega) (by omega) HR1 rfl has hw48 _ j p1 hp1 hfk hks (by omega) (by omega) HR2 rfl hfz (((p1 : Int) - (j : Int)) + x) _ _ _ _ (Lib.hid (wok_1 s j p1 j hs (by omega) x _ hx rfl)) (Lib.hid HM)
            simp only []
            rw [show x - ((j - p1 : Nat) : Int) = ((p1 : Int) - (j : Int)) + x by omega]
            exact this
      · have hnf : ∀ hh : k1 < s.size, (s[k1]'hh).toNat ≠ 46 := fun hh e => hp (by rw [head_k s k1 hh, u8_of (by decide) e]; rfl)
        rw [if_neg hp]
        cases hx : expo 1000000000 (s.data.toList.drop k1) with
        | none => exact rp_pn0_er s _ k1 w hs h0 hg (by omega) (by omega) HR1 rfl has hw48 hnf (Lib.hid (wer s k1 hs (by omega) hx))
        | some x =>
          have hb := expo_bd2 hx
          have hN : Num (s.extract 0 k1) (val ((s.data.toList.drop 0).take (k1 - 0))) := ⟨by rw [ex_kj]; exact hda, by rw [ex_kj]⟩
          have HM := fun w => norm_any false (s.extract 0 k1) _ x w hN (by omega) (by omega)
          exact rp_pn0_ok s _ k1 w hs h0 hg (by omega) (by omega) HR1 rfl has hw48 hnf x _ _ _ _ (Lib.hid (wok_0 s k1 hs (by omega) x x hx rfl)) (Lib.hid HM)
theorem rdparse_any (s : ByteArray) (w : World) (hs : s.size ≤ 1000) : Calls Tryd.prog 6 #[.string s] w fun e w' => e = rR (prs 1000000000 s.data.toList) ∧ Below w.heap.size w w' := by
  by_cases h0 : s.size = 0
  · have e : s = ⟨#[]⟩ := ba_ext (List.length_eq_zero_iff.1 h0)
    subst e
    exact re_e w (run_at ⟨#[]⟩ 0 0 (by decide) (by decide) (by decide))
  · by_cases hg : (s[0]'(by omega)).toNat = 45
    · exact rprs_m s w hs (by omega) hg
    · exact rprs_p s w hs (by omega) hg
set_option maxRecDepth 100000 in
set_option maxHeartbeats 4000000 in
theorem parses_walk (s : ByteArray) (w : World) (hs : s.size ≤ maxLen) : Calls Tryd.prog 3 #[.string s] w fun e w' => e = .returned (.bool true) ∧ Below w.heap.size w w' := by
  have HL := Lib.hid lives_any
  by_cases hl : 1000 < s.size
  · have h1 : (1000 : Int) < s.size := by omega
    clear hl hs
    go_enter Tryd.func3, Tryd.ntmps3
    go_wp2_with (go_at_call 4; (with_reducible refine (HL.out _).mono ?_); rintro e w1 ⟨rfl, hb⟩)
    go_ret
    exact ⟨rfl, hb⟩
  · have h1 : ¬ (1000 : Int) < s.size := by omega
    have H1 := Lib.hid (fun w => dparse_any s w (by omega))
    have H2 := Lib.hid (fun w => rdparse_any s w (by omega))
    rw [prs_caps s.data.toList (by have : s.data.toList.length = s.size := rfl; omega)] at H1
    obtain ⟨R1, R2, R3, R4, hR⟩ : ∃ a b c d, prs 1000000000 s.data.toList = (a, b, c, d) := ⟨_, _, _, _, rfl⟩
    rw [hR] at H1 H2
    unfold rR at H1 H2
    simp only at H1 H2
    obtain ⟨D, hD⟩ : ∃ D, S R2 = D := ⟨_, rfl⟩
    rw [hD] at H1 H2
    clear hR hD hl hs
    have bl : Below w.heap.size w w := Below.refl _ _
    go_enter Tryd.func3, Tryd.ntmps3
    go_wp2_with (first | (go_at_call 5; go_loud ((with_reducible refine (H1.out _).mono ?_); rintro e WK ⟨rfl, hb⟩; have Xp := DC.new WK R1 D R3; have bl := (bl.trans (hb.mono bl.size)).alloc (Nat.le_trans bl.size hb.size) (.cells #[.bool R1, .string D, .int .i64 R3] 24); clear hb)) | (go_at_call 6; go_loud ((with_reducible refine (H2.out _).mono ?_); rintro e WM ⟨rfl, hb⟩; have Xp := (Xp.below hb Xp.lt).alloc (.cells #[.bool R1, .string D, .int .i64 R3] 24); have Xq := DC.new WM R1 D R3; have bl := (bl.trans (hb.mono bl.size)).alloc (Nat.le_trans bl.size hb.size) (.cells #[.bool R1, .string D, .int .i64 R3] 24); clear hb; obtain ⟨p0, p1, p2⟩ := Xp.cells; obtain ⟨q0, q1, q2⟩ := Xq.cells)) | (go_at_call 4; go_loud ((with_reducible refine (HL.out _).mono ?_); rintro e wz ⟨rfl, hb⟩; have bl := bl.trans (hb.mono bl.size); clear hb)))
    go_ret
    exact ⟨rfl, bl⟩
end Go.Proofs.YtaikmelefllgpabDoor.Dec
