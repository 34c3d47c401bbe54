/-
  Package decimal's reference: run and power.
-/
import Derived.Test.YtaikmelefllgpabDoorDecBD
import Derived.Test.YtaikmelefllgpabDoorDigM
namespace Go.Proofs.YtaikmelefllgpabDoor.Dec
open Go.RowKit
set_option linter.unusedVariables false
set_option linter.unusedSimpArgs false
open Go.Proofs.YtaikmelefllgpabDoor.Dig

def rn (l : List UInt8) (k : Nat) : Nat := k + dlL (l.drop k)
theorem rn_le {l : List UInt8} {k : Nat} (h : k ≤ l.length) : k ≤ rn l k ∧ rn l k ≤ l.length := by
  have := dlL_le (l.drop k)
  rw [List.length_drop] at this
  unfold rn
  omega
theorem rn_stop {s : ByteArray} {k : Nat} (h : ∀ hh : k < s.size, isd (s[k]'hh) = false) : rn s.data.toList k = k := by
  unfold rn
  by_cases hk : k < s.size
  · rw [List.drop_eq_getElem_cons (show k < s.data.toList.length from hk), dlL_cons, if_neg]
    · rfl
    · have := h hk
      exact fun e => by rw [show s.data.toList[k] = s[k] from rfl, this] at e; cases e
  · rw [List.drop_eq_nil_of_le (by have : s.data.toList.length = s.size := rfl; omega)]; rfl
theorem rn_go {s : ByteArray} {k : Nat} (hk : k < s.size) (h : isd (s[k]'hk) = true) : rn s.data.toList k = rn s.data.toList (k + 1) := by
  unfold rn
  rw [List.drop_eq_getElem_cons (show k < s.data.toList.length from hk), dlL_cons, if_pos (show isd s.data.toList[k] = true from h)]
  omega
set_option maxRecDepth 100000 in
set_option maxHeartbeats 8000000 in
theorem run_any (s : ByteArray) (k : Nat) (w : World) (hs : s.size ≤ 100000) (hk : k ≤ s.size) : Calls Tryd.prog 13 #[.string s, .int .i64 k] w fun e w' => e = .returned (.int .i64 (rn s.data.toList k)) ∧ w' = w := by
  obtain ⟨r, hr⟩ : ∃ r, rn s.data.toList k = r := ⟨_, rfl⟩
  rw [hr]
  have HR := Lib.hid hr
  clear hr
  go_enter Tryd.func13, Tryd.ntmps13
  go_wp2
  go_loop [1] (fun i => ∃ j : Nat, j ≤ s.size ∧ i = .int .i64 j ∧ Hid (rn s.data.toList j = r)) (fun i => s.size - (intOf i).toNat)
  case atStart => exact ⟨k, hk, rfl, HR⟩
  case round =>
    obtain ⟨j, hj, rfl, HJ⟩ := hrel
    by_cases hlt : j < s.size
    · have hi : (j : Int) < s.size := by omega
      by_cases h1 : 48 ≤ s[j].toNat
      · have c1 : decide ((48 : Int) ≤ (s[j].toNat : Int)) = true := decide_eq_true (by omega)
        by_cases h2 : s[j].toNat ≤ 57
        · have c2 : decide ((s[j].toNat : Int) ≤ 57) = true := decide_eq_true (by omega)
          have HN := Lib.hid (show rn s.data.toList (j + 1) = r by rw [← rn_go hlt (isd_t (by omega) (by omega))]; exact HJ.out)
          clear h1 h2
          go_wp2
          go_round
          case rel => exact ⟨j + 1, by omega, by go_num, HN⟩
          case measure => simp [intOf]; omega
        · have c2 : decide ((s[j].toNat : Int) ≤ 57) = false := decide_eq_false (by omega)
          have e : j = r := by rw [← HJ.out]; exact (rn_stop (fun _ => isd_f (.inr (by omega)))).symm
          subst e
          clear h1 h2
          go_wp2
          go_ret
          exact ⟨rfl, rfl⟩
      · have c1 : decide ((48 : Int) ≤ (s[j].toNat : Int)) = false := decide_eq_false (by omega)
        have e : j = r := by rw [← HJ.out]; exact (rn_stop (fun _ => isd_f (.inl (by omega)))).symm
        subst e
        clear h1
        go_wp2
        go_ret
        exact ⟨rfl, rfl⟩
    · have hi : ¬ (j : Int) < s.size := by omega
      have e : j = r := by rw [← HJ.out]; exact (rn_stop (fun h => absurd h hlt)).symm
      subst e
      go_wp2
      go_ret
      exact ⟨rfl, rfl⟩
set_option maxRecDepth 100000 in
set_option maxHeartbeats 8000000 in
theorem power_any (s : ByteArray) (w : World) (hs : s.size ≤ 100000) (hd : digs s.data.toList = true) : Calls Tryd.prog 14 #[.string s] w fun e w' => e = .returned (.int .i64 ((min (val s.data.toList) 1000000000 : Nat) : Int)) ∧ w' = w := by
  obtain ⟨n, hn⟩ : ∃ n, val s.data.toList = n := ⟨_, rfl⟩
  have HS := Lib.hid (fun w => strip_any s n w (by omega) ⟨hd, hn⟩)
  rw [hn]
  by_cases hl : 9 < (S n).size
  · have h1 : (9 : Int) < (S n).size := by omega
    have hv : ((min n 1000000000 : Nat) : Int) = 1000000000 := by
      have : 10 ^ 9 ≤ n := len_ge.1 (show 9 < (num n).length by rw [← S_size]; exact hl)
      omega
    rw [hv]
    obtain ⟨t, ht⟩ : ∃ t, S n = t := ⟨_, rfl⟩
    rw [ht] at HS h1
    clear hd hn hl hv
    go_enter Tryd.func14, Tryd.ntmps14
    go_wp2_with (go_at_call 26; (with_reducible refine (HS.out _).mono ?_); rintro e w1 ⟨rfl, rfl⟩)
    go_ret
    exact ⟨rfl, rfl⟩
  · have h1 : ¬ (9 : Int) < (S n).size := by omega
    have hn9 : n < 10 ^ 9 := num_len.1 (by rw [← S_size]; omega)
    have HT := Lib.hid (fun w => rtoInt_S n w (by omega))
    have hv : ((min n 1000000000 : Nat) : Int) = tiV n := by
      unfold tiV
      rw [if_pos (show n ≤ maxI by unfold maxI; omega)]
      omega
    rw [hv]
    obtain ⟨t, ht⟩ : ∃ t, S n = t := ⟨_, rfl⟩
    rw [ht] at HS h1 HT
    obtain ⟨v, hvv⟩ : ∃ v, tiV n = v := ⟨_, rfl⟩
    obtain ⟨x, hx⟩ : ∃ v, tiE n = v := ⟨_, rfl⟩
    rw [hvv, hx] at HT
    rw [hvv]
    clear hd hn hl hv
    go_enter Tryd.func14, Tryd.ntmps14
    go_wp2_with (first | (go_at_call 26; (with_reducible refine (HS.out _).mono ?_); rintro e w1 ⟨rfl, rfl⟩) | (go_at_call 27; (with_reducible refine (HT.out _).mono ?_); rintro e w1 ⟨rfl, rfl⟩))
    go_ret
    exact ⟨rfl, rfl⟩
end Go.Proofs.YtaikmelefllgpabDoor.Dec
