/-
  Package moment: forms and numbers of texts.
-/
import Derived.Test.YtkbddelacjjapaaDoorMomJ
import Derived.Test.YtkbddelacjjapaaDoorShelf2
import Derived.Deep.QuietTactic
import Derived.BigQuiet
import Derived.Lib.AtoiErrMem
namespace Go.Proofs.YtkbddelacjjapaaDoor.Mom
open Go.RowKit
set_option linter.unusedVariables false
set_option linter.unusedSimpArgs false

theorem number_any (s : ByteArray) (n : Int) (w : World) (hl : s.size ≤ 18) (h : Lib.atoi s.data.toList = some n) : Calls Tryd.prog 34 #[.string s] w fun e w' => e = .returned (.int .i64 n) ∧ Below w.heap.size w w' := by
  have HA := Lib.hid (Tryd.strconv_Atoi s n hl h w)
  clear h
  go_enter Tryd.func34, Tryd.ntmps34
  go_wp2_with (go_at_call 47; (with_reducible refine HA.out.mono ?_); rintro e w1 ⟨rfl, t, rfl⟩)
  go_ret
  exact ⟨rfl, Lib.bytesWorld_below w _ _⟩
/-- s has the form of p, byte by byte. -/
def FormB (s p : ByteArray) : Prop := s.size = p.size ∧ ∀ k (hs : k < s.size) (hp : k < p.size), (p[k] = 48 ∧ 48 ≤ s[k].toNat ∧ s[k].toNat ≤ 57) ∨ (p[k] ≠ 48 ∧ s[k] = p[k])
set_option maxRecDepth 100000 in
set_option maxHeartbeats 2000000 in
theorem matches_yes (s p : ByteArray) (w : World) (h : FormB s p) (hs : s.size ≤ 1000) : Calls Tryd.prog 33 #[.string s, .string p] w fun e w' => e = .returned (.bool true) ∧ Below w.heap.size w w' := by
  obtain ⟨hz, hf⟩ := h
  obtain ⟨n, hn⟩ : ∃ n, s.size = n := ⟨_, rfl⟩
  have hpn : p.size = n := by omega
  have HF := Lib.hid hf
  have HN := Lib.hid hn
  clear hf hz
  go_enter Tryd.func33, Tryd.ntmps33
  go_wp2
  go_loopw [14] (fun i wr => ∃ k m : Nat, k ≤ n ∧ i = .int .i64 k ∧ wr = w.drewN m) (fun i _ => n - (intOf i).toNat)
  case atStart => exact ⟨0, 0, by omega, rfl, rfl⟩
  case round =>
    obtain ⟨k, m, hk, rfl, rfl⟩ := hrel
    by_cases hlt : k < n
    · have h1 : k < s.size := by omega
      have h2 : k < p.size := by omega
      have hf := HF.out k h1 h2
      rcases hf with ⟨e1, e2, e3⟩ | ⟨e1, e2⟩
      · have b1 : ((p[k].toNat : Int) == 48) = true := by rw [e1]; rfl
        have b2 : ((p[k].toNat : Int) != 48) = false := by rw [e1]; rfl
        have b3 : (48 : Int) ≤ (s[k].toNat : Int) := by omega
        have b4 : (s[k].toNat : Int) ≤ 57 := by omega
        clear e1 e2 e3
        go_wp2
        go_quiet (fail)
        go_wp2
        exact ⟨⟨k + 1, _, by omega, by go_num, rfl⟩, by simp [intOf] <;> omega⟩
      · have hne : (p[k].toNat : Int) ≠ 48 := fun e => e1 (UInt8.toNat_inj.1 (by have : (48 : UInt8).toNat = 48 := rfl; omega))
        have b1 : ((p[k].toNat : Int) == 48) = false := by simpa using hne
        have b2 : ((p[k].toNat : Int) != 48) = true := by simpa using hne
        have b3 : ((s[k].toNat : Int) != (p[k].toNat : Int)) = false := by rw [e2]; simp
        clear e1 e2 hne
        go_wp2
        all_goals
          go_quiet (fail)
          go_wp2
          exact ⟨⟨k + 1, _, by omega, by go_num, rfl⟩, by simp [intOf] <;> omega⟩
    · go_wp2
      go_ret
      exact ⟨rfl, (Below.refl _ _).trans ⟨rfl, rfl, rfl, Nat.le_refl _, fun _ _ => rfl⟩⟩
end Go.Proofs.YtkbddelacjjapaaDoor.Mom
