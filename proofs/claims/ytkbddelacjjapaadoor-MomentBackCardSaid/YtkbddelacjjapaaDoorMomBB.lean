/-
  Package moment: forms and numbers of any text.
-/
import Derived.Test.YtkbddelacjjapaaDoorMomBA
namespace Go.Proofs.YtkbddelacjjapaaDoor.Mom
open Go.RowKit
set_option linter.unusedVariables false
set_option linter.unusedSimpArgs false

theorem form_conv : ∀ (s p : List UInt8), s.length = p.length → (∀ (k : Nat) (a b : UInt8), s[k]? = some a → p[k]? = some b → (b = 48 ∧ 48 ≤ a.toNat ∧ a.toNat ≤ 57) ∨ (b ≠ 48 ∧ a = b)) → formL s p = true
  | [], [], _, _ => rfl
  | a :: s, b :: p, hl, h => by
    unfold formL
    have h0 := h 0 a b (by simp) (by simp)
    have ih := form_conv s p (by simpa using hl) (fun k x y hx hy => h (k + 1) x y (by simpa using hx) (by simpa using hy))
    rw [ih, Bool.and_true]
    rcases h0 with ⟨h1, h2, h3⟩ | ⟨h1, h2⟩
    · simp [h1, h2, h3]
    · simp [h1, h2]
  | [], _ :: _, h, _ => by simp at h
  | _ :: _, [], h, _ => by simp at h
theorem form_bad {s p : ByteArray} (k : Nat) (hs : k < s.size) (hp : k < p.size) (h : ¬ ((p[k] = 48 ∧ 48 ≤ s[k].toNat ∧ s[k].toNat ≤ 57) ∨ (p[k] ≠ 48 ∧ s[k] = p[k]))) : false = formL s.data.toList p.data.toList := by
  symm
  rw [Bool.eq_false_iff]
  intro hf
  exact h ((form_of hf).2 k hs hp)
theorem form_ok {s p : ByteArray} (hz : s.size = p.size) (h : ∀ k (hs : k < s.size) (hp : k < p.size), (p[k] = 48 ∧ 48 ≤ s[k].toNat ∧ s[k].toNat ≤ 57) ∨ (p[k] ≠ 48 ∧ s[k] = p[k])) : true = formL s.data.toList p.data.toList := by
  symm
  refine form_conv _ _ hz (fun k a b ha hb => ?_)
  obtain ⟨h1, rfl⟩ := List.getElem?_eq_some_iff.1 ha
  obtain ⟨h2, rfl⟩ := List.getElem?_eq_some_iff.1 hb
  exact h k h1 h2
theorem form_next {s p : ByteArray} {k : Nat} (HI : ∀ j (hs : j < s.size) (hp : j < p.size), j < k → (p[j] = 48 ∧ 48 ≤ s[j].toNat ∧ s[j].toNat ≤ 57) ∨ (p[j] ≠ 48 ∧ s[j] = p[j])) (h1 : k < s.size) (h2 : k < p.size) (h : (p[k] = 48 ∧ 48 ≤ s[k].toNat ∧ s[k].toNat ≤ 57) ∨ (p[k] ≠ 48 ∧ s[k] = p[k])) : ∀ j (hs : j < s.size) (hp : j < p.size), j < k + 1 → (p[j] = 48 ∧ 48 ≤ s[j].toNat ∧ s[j].toNat ≤ 57) ∨ (p[j] ≠ 48 ∧ s[j] = p[j]) := fun j hs hp hj => by
  by_cases hjk : j < k
  · exact HI j hs hp hjk
  · have e : k = j := by omega
    subst e
    exact h
set_option maxRecDepth 100000 in
set_option maxHeartbeats 2000000 in
theorem matches_any (s p : ByteArray) (w : World) (hs : s.size ≤ 9223372036854775807) : Calls Tryd.prog 33 #[.string s, .string p] w fun e w' => e = .returned (.bool (formL s.data.toList p.data.toList)) ∧ Below w.heap.size w w' := by
  by_cases hz : s.size = p.size
  · obtain ⟨n, hn⟩ : ∃ n, s.size = n := ⟨_, rfl⟩
    have hpn : p.size = n := by omega
    have HN := Lib.hid hn
    have HZ := Lib.hid hz
    clear hz
    go_enter Tryd.func33, Tryd.ntmps33
    go_wp2
    go_loopw [14] (fun i wr => ∃ k m : Nat, k ≤ n ∧ i = .int .i64 k ∧ wr = w.drewN m ∧ Hid (∀ j (hs : j < s.size) (hp : j < p.size), j < k → (p[j] = 48 ∧ 48 ≤ s[j].toNat ∧ s[j].toNat ≤ 57) ∨ (p[j] ≠ 48 ∧ s[j] = p[j]))) (fun i _ => n - (intOf i).toNat)
    case atStart => exact ⟨0, 0, by omega, rfl, rfl, Lib.hid fun j _ _ hj => absurd hj (by omega)⟩
    case round =>
      obtain ⟨k, m, hk, rfl, rfl, HI⟩ := hrel
      by_cases hlt : k < n
      · have h1 : k < s.size := by omega
        have h2 : k < p.size := by omega
        have HX := Lib.hid (form_next HI.out h1 h2)
        have HB := Lib.hid (form_bad k h1 h2)
        by_cases e1 : p[k] = 48
        · have b1 : ((p[k].toNat : Int) == 48) = true := by rw [e1]; rfl
          have b2 : ((p[k].toNat : Int) != 48) = false := by rw [e1]; rfl
          by_cases e2 : 48 ≤ s[k].toNat
          · have b3 : (48 : Int) ≤ (s[k].toNat : Int) := by omega
            by_cases e3 : s[k].toNat ≤ 57
            · have b4 : (s[k].toNat : Int) ≤ 57 := by omega
              have HX2 := Lib.hid (HX.out (.inl ⟨e1, e2, e3⟩))
              clear e1 e2 e3 HB HX
              go_wp2
              go_quiet (fail)
              go_wp2
              exact ⟨⟨k + 1, _, by omega, by go_num, rfl, HX2⟩, by simp [intOf] <;> omega⟩
            · have b4 : ¬ (s[k].toNat : Int) ≤ 57 := by omega
              have HF := Lib.hid (HB.out (fun h => h.elim (fun q => e3 q.2.2) (fun q => q.1 e1)))
              clear e1 e2 e3 HB HX
              go_wp2
              go_quiet (fail)
              go_wp2
              go_ret
              exact ⟨ret_bool HF.out, (Below.refl _ _).trans ⟨rfl, rfl, rfl, Nat.le_refl _, fun _ _ => rfl⟩⟩
          · have b3 : ¬ (48 : Int) ≤ (s[k].toNat : Int) := by omega
            have HF := Lib.hid (HB.out (fun h => h.elim (fun q => e2 q.2.1) (fun q => q.1 e1)))
            clear e1 e2 HB HX
            go_wp2
            go_quiet (fail)
            go_wp2
            go_ret
            exact ⟨ret_bool HF.out, (Below.refl _ _).trans ⟨rfl, rfl, rfl, Nat.le_refl _, fun _ _ => rfl⟩⟩
        · have hne : (p[k].toNat : Int) ≠ 48 := fun e => e1 (UInt8.toNat_inj.1 (by have : (48 : UInt8).toNat = 48 := rfl; omega))
          have b1 : ((p[k].toNat : Int) == 48) = false := by simpa using hne
          have b2 : ((p[k].toNat : Int) != 48) = true := by simpa using hne
          by_cases e2 : s[k] = p[k]
          · have b3 : ((s[k].toNat : Int) != (p[k].toNat : Int)) = false := by rw [e2]; simp
            have HX2 := Lib.hid (HX.out (.inr ⟨e1, e2⟩))
            clear e1 e2 hne HB HX
            go_wp2
            all_goals
              go_quiet (fail)
              go_wp2
              exact ⟨⟨k + 1, _, by omega, by go_num, rfl, HX2⟩, by simp [intOf] <;> omega⟩
          · have b3 : ((s[k].toNat : Int) != (p[k].toNat : Int)) = true := by
              rw [bne_iff_ne]; intro e; exact e2 (UInt8.toNat_inj.1 (by omega))
            have HF := Lib.hid (HB.out (fun h => by rcases h with ⟨q, _, _⟩ | ⟨_, q⟩ <;> contradiction))
            clear e1 e2 hne HB HX
            go_wp2
            all_goals
              go_quiet (fail)
              go_wp2
              go_ret
              exact ⟨ret_bool HF.out, (Below.refl _ _).trans ⟨rfl, rfl, rfl, Nat.le_refl _, fun _ _ => rfl⟩⟩
      · go_wp2
        go_ret
        exact ⟨ret_bool (form_ok HZ.out (fun j hs hp => HI.out j hs hp (by have := HN.out; omega))), (Below.refl _ _).trans ⟨rfl, rfl, rfl, Nat.le_refl _, fun _ _ => rfl⟩⟩
  · have HF : Hid (false = formL s.data.toList p.data.toList) := Lib.hid (by
      symm; rw [Bool.eq_false_iff]; intro hf; exact hz (form_len _ _ hf))
    have hb : ((s.size : Int) != (p.size : Int)) = true := by rw [bne_iff_ne]; omega
    go_enter Tryd.func33, Tryd.ntmps33
    go_wp2
    go_ret
    exact ⟨ret_bool HF.out, Below.refl _ _⟩
theorem size_ne {s : ByteArray} (hn : 0 < s.size) : s.data.toList ≠ [] := fun e => by
  have : s.size = 0 := by
    show s.data.toList.length = 0
    rw [e]; rfl
  omega
theorem number_digs (s : ByteArray) (w : World) (hn : 0 < s.size) (hl : s.size ≤ 18) (h : ∀ c ∈ s.data.toList, dg c) : Calls Tryd.prog 34 #[.string s] w fun e w' => e = .returned (.int .i64 (nvl s.data.toList)) ∧ Below w.heap.size w w' :=
  number_any s _ w hl (atoi_digs _ (size_ne hn) h)
theorem ex_sub (s : ByteArray) (a b : Nat) : (s.extract a b).data.toList = sub s.data.toList a b := by
  unfold sub
  rw [ByteArray.data_extract]
  simp [Array.toList_extract, List.extract_eq_take_drop]
end Go.Proofs.YtkbddelacjjapaaDoor.Mom
