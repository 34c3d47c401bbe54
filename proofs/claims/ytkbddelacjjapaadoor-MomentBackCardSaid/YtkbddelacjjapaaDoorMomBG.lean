/-
  Package moment's reference: forms and numbers of any text.
-/
import Derived.Test.YtkbddelacjjapaaDoorMomBB
namespace Go.Proofs.YtkbddelacjjapaaDoor.Mom
open Go.RowKit
set_option linter.unusedVariables false
set_option linter.unusedSimpArgs false

def likeL : List UInt8 → List UInt8 → Bool
  | _, [] => true
  | a :: s, b :: p => ((b == 100 && isDg a) || (b != 100 && a == b)) && likeL s p
  | [], _ :: _ => false
def wild (b : UInt8) : UInt8 := if b = 48 then 100 else b
theorem like_form : ∀ (p l : List UInt8), (∀ b ∈ p, b ≠ 100) → likeL l (p.map wild) = formL (l.take p.length) p
  | [], l, _ => by cases l <;> rfl
  | b :: p, [], _ => rfl
  | b :: p, a :: l, h => by
    have ih := like_form p l (fun x hx => h x (List.mem_cons_of_mem _ hx))
    have hb := h b (List.mem_cons_self ..)
    rw [List.map_cons, List.length_cons, List.take_succ_cons]
    unfold likeL formL
    rw [ih]
    congr 1
    unfold wild isDg
    by_cases h48 : b = 48
    · rw [if_pos h48]; subst h48; simp
    · rw [if_neg h48]
      have e1 : (b == 100) = false := beq_eq_false_iff_ne.2 hb
      have e2 : (b == 48) = false := beq_eq_false_iff_ne.2 h48
      rw [e1, e2]
      simp [bne, e1, e2]
def okG (a b : UInt8) : Prop := (b = 100 ∧ 48 ≤ a.toNat ∧ a.toNat ≤ 57) ∨ (b ≠ 100 ∧ a = b)
theorem like_len : ∀ s p : List UInt8, likeL s p = true → p.length ≤ s.length
  | _, [], _ => Nat.zero_le _
  | _ :: s, _ :: p, h => by
    unfold likeL at h
    rw [Bool.and_eq_true] at h
    have := like_len s p h.2
    simp; omega
  | [], _ :: _, h => by cases h
theorem like_at : ∀ (s p : List UInt8), likeL s p = true → ∀ (k : Nat) (a b : UInt8), s[k]? = some a → p[k]? = some b → okG a b
  | _, [], _, k, a, b, _, hb => by simp at hb
  | [], _ :: _, h, _, _, _, _, _ => by cases h
  | x :: s, y :: p, h, k, a, b, ha, hb => by
    unfold likeL at h
    rw [Bool.and_eq_true] at h
    cases k with
    | zero =>
      simp at ha hb
      subst ha hb
      have := h.1
      simp [isDg] at this
      rcases this with ⟨h1, h2, h3⟩ | ⟨h1, h2⟩
      · exact .inl ⟨h1, h2, h3⟩
      · exact .inr ⟨h1, h2⟩
    | succ k => exact like_at s p h.2 k a b (by simpa using ha) (by simpa using hb)
theorem like_conv : ∀ (s p : List UInt8), p.length ≤ s.length → (∀ (k : Nat) (a b : UInt8), s[k]? = some a → p[k]? = some b → okG a b) → likeL s p = true
  | [], [], _, _ => rfl
  | _ :: _, [], _, _ => rfl
  | a :: s, b :: p, hl, h => by
    unfold likeL
    have h0 := h 0 a b (by simp) (by simp)
    have ih := like_conv s p (by simpa using hl) (fun k x y hx hy => h (k + 1) x y (by simpa using hx) (by simpa using hy))
    rw [ih, Bool.and_true]
    rcases h0 with ⟨h1, h2, h3⟩ | ⟨h1, h2⟩
    · simp [isDg, h1, h2, h3]
    · simp [h1, h2]
  | [], _ :: _, h, _ => by simp at h
theorem like_bad {s p : ByteArray} (k : Nat) (hs : k < s.size) (hp : k < p.size) (h : ¬ okG s[k] p[k]) : false = likeL s.data.toList p.data.toList := by
  symm
  rw [Bool.eq_false_iff]
  intro hf
  exact h (like_at _ _ hf k s[k] p[k] (by rw [List.getElem?_eq_getElem (show k < s.data.toList.length from hs)]; rfl) (by rw [List.getElem?_eq_getElem (show k < p.data.toList.length from hp)]; rfl))
theorem like_ok {s p : ByteArray} (hz : p.size ≤ s.size) (h : ∀ k (hs : k < s.size) (hp : k < p.size), okG s[k] p[k]) : true = likeL s.data.toList p.data.toList := by
  symm
  refine like_conv _ _ hz (fun k a b ha hb => ?_)
  obtain ⟨h1, rfl⟩ := List.getElem?_eq_some_iff.1 ha
  obtain ⟨h2, rfl⟩ := List.getElem?_eq_some_iff.1 hb
  exact h k h1 h2
theorem like_next {s p : ByteArray} {k : Nat} (HI : ∀ j (hs : j < s.size) (hp : j < p.size), j < k → okG s[j] p[j]) (h1 : k < s.size) (h2 : k < p.size) (h : okG s[k] p[k]) : ∀ j (hs : j < s.size) (hp : j < p.size), j < k + 1 → okG s[j] p[j] := fun j hs hp hj => by
  by_cases hjk : j < k
  · exact HI j hs hp hjk
  · have e : k = j := by omega
    subst e
    exact h
set_option maxRecDepth 100000 in
set_option maxHeartbeats 2000000 in
theorem like_any (s p : ByteArray) (w : World) (hs : p.size ≤ 1000) : Calls Tryd.prog 24 #[.string s, .string p] w fun e w' => e = .returned (.bool (likeL s.data.toList p.data.toList)) ∧ Below w.heap.size w w' := by
  by_cases hz : p.size ≤ s.size
  · have HZ := Lib.hid hz
    have hz1 : ¬ (s.size : Int) < p.size := by omega
    clear hz
    go_enter Tryd.func24, Tryd.ntmps24
    go_wp2
    go_loopw [5] (fun i wr => ∃ k m : Nat, k ≤ p.size ∧ i = .int .i64 k ∧ wr = w.drewN m ∧ Hid (∀ j (hs : j < s.size) (hp : j < p.size), j < k → okG s[j] p[j])) (fun i _ => p.size - (intOf i).toNat)
    case atStart => exact ⟨0, 0, by omega, rfl, rfl, Lib.hid fun j _ _ hj => absurd hj (by omega)⟩
    case round =>
      obtain ⟨k, m, hk, rfl, rfl, HI⟩ := hrel
      by_cases hlt : k < p.size
      · have h2 : k < p.size := hlt
        have hi : (k : Int) < p.size := by omega
        have h1 : k < s.size := by have := HZ.out; omega
        have HX := Lib.hid (like_next HI.out h1 h2)
        have HB := Lib.hid (like_bad k h1 h2)
        by_cases e1 : p[k] = 100
        · have b1 : ((p[k].toNat : Int) == 100) = true := by rw [e1]; rfl
          have b2 : ((p[k].toNat : Int) != 100) = false := by rw [e1]; rfl
          by_cases e2 : 48 ≤ s[k].toNat
          · have b3 : decide ((s[k].toNat : Int) < 48) = false := decide_eq_false (by omega)
            by_cases e3 : s[k].toNat ≤ 57
            · have b4 : decide ((57 : Int) < (s[k].toNat : Int)) = false := decide_eq_false (by omega)
              have HX2 := Lib.hid (HX.out (.inl ⟨e1, e2, e3⟩))
              clear e1 e2 e3 HB HX
              go_wp2
              go_big_quiet (fail)
              go_wp2
              exact ⟨⟨k + 1, _, by omega, by go_num, rfl, HX2⟩, by simp [intOf] <;> omega⟩
            · have b4 : decide ((57 : Int) < (s[k].toNat : Int)) = true := decide_eq_true (by omega)
              have HF := Lib.hid (HB.out (fun h => h.elim (fun q => e3 q.2.2) (fun q => q.1 e1)))
              clear e1 e2 e3 HB HX
              go_wp2
              go_big_quiet (fail)
              go_wp2
              go_ret
              exact ⟨ret_bool HF.out, (Below.refl _ _).trans ⟨rfl, rfl, rfl, Nat.le_refl _, fun _ _ => rfl⟩⟩
          · have b3 : decide ((s[k].toNat : Int) < 48) = true := decide_eq_true (by omega)
            have HF := Lib.hid (HB.out (fun h => h.elim (fun q => e2 q.2.1) (fun q => q.1 e1)))
            clear e1 e2 HB HX
            go_wp2
            go_big_quiet (fail)
            go_wp2
            go_ret
            exact ⟨ret_bool HF.out, (Below.refl _ _).trans ⟨rfl, rfl, rfl, Nat.le_refl _, fun _ _ => rfl⟩⟩
        · have hne : (p[k].toNat : Int) ≠ 100 := fun e => e1 (UInt8.toNat_inj.1 (by have : (100 : UInt8).toNat = 100 := rfl; omega))
          have b1 : ((p[k].toNat : Int) == 100) = false := by simpa using hne
          have b2 : ((p[k].toNat : Int) != 100) = true := by simpa using hne
          by_cases e2 : s[k] = p[k]
          · have b3 : ((s[k].toNat : Int) != (p[k].toNat : Int)) = false := by rw [e2]; simp
            have HX2 := Lib.hid (HX.out (.inr ⟨e1, e2⟩))
            clear e1 e2 hne HB HX
            go_wp2
            go_big_quiet (fail)
            go_wp2
            exact ⟨⟨k + 1, _, by omega, by go_num, rfl, HX2⟩, by simp [intOf] <;> omega⟩
          · have b3 : ((s[k].toNat : Int) != (p[k].toNat : Int)) = true := by
              rw [bne_iff_ne]; intro e; exact e2 (UInt8.toNat_inj.1 (by omega))
            have HF := Lib.hid (HB.out (fun h => by rcases h with ⟨q, _, _⟩ | ⟨_, q⟩ <;> contradiction))
            clear e1 e2 hne HB HX
            go_wp2
            go_big_quiet (fail)
            go_wp2
            go_ret
            exact ⟨ret_bool HF.out, (Below.refl _ _).trans ⟨rfl, rfl, rfl, Nat.le_refl _, fun _ _ => rfl⟩⟩
      · have hi : ¬ (k : Int) < p.size := by omega
        go_wp2
        go_ret
        exact ⟨ret_bool (like_ok HZ.out (fun j hs hp => HI.out j hs hp (by omega))), (Below.refl _ _).trans ⟨rfl, rfl, rfl, Nat.le_refl _, fun _ _ => rfl⟩⟩
  · have HF : Hid (false = likeL s.data.toList p.data.toList) := Lib.hid (by
      symm; rw [Bool.eq_false_iff]; intro hf; exact hz (like_len _ _ hf))
    have hb : (s.size : Int) < p.size := by omega
    go_enter Tryd.func24, Tryd.ntmps24
    go_wp2
    go_ret
    exact ⟨ret_bool HF.out, Below.refl _ _⟩
theorem nvl_take (l : List UInt8) (k : Nat) (h : k < l.length) : nvl (l.take (k + 1)) = nvl (l.take k) * 10 + ((l[k]'h).toNat - 48) := by
  rw [List.take_succ_eq_append_getElem h, nvl_snoc]
set_option maxRecDepth 100000 in
set_option maxHeartbeats 2000000 in
theorem rnumber_any (s : ByteArray) (w : World) (hs : s.size ≤ 18) (hd : ∀ c ∈ s.data.toList, dg c) : Calls Tryd.prog 27 #[.string s] w fun e w' => e = .returned (.int .i64 (nvl s.data.toList)) ∧ w' = w := by
  have HD := Lib.hid hd
  clear hd
  go_enter Tryd.func27, Tryd.ntmps27
  go_wp2
  go_loopw [3, 4] (fun n i wr => ∃ k x : Nat, k ≤ s.size ∧ n = .int .i64 x ∧ i = .int .i64 k ∧ wr = w ∧ Hid (x = nvl (s.data.toList.take k))) (fun _ i _ => s.size - (intOf i).toNat)
  case atStart => exact ⟨0, 0, by omega, rfl, rfl, rfl, Lib.hid rfl⟩
  case round =>
    obtain ⟨k, x, hk, rfl, rfl, rfl, HX⟩ := hrel
    by_cases hlt : k < s.size
    · have hi : (k : Int) < s.size := by omega
      have hlt' : k < s.data.toList.length := hlt
      have hc := HD.out s[k] (List.getElem_mem hlt')
      unfold dg at hc
      have hx : x < 10 ^ 18 := by
        rw [HX.out]
        refine Nat.lt_of_lt_of_le (nvl_lt _ _ rfl (fun c hc => HD.out c (List.mem_of_mem_take hc))) (Nat.pow_le_pow_right (by omega) ?_)
        rw [List.length_take]; have : s.data.toList.length = s.size := rfl
        omega
      have hx2 : x < 100000000000000000 := by
        have h1 : (s.data.toList.take k).length ≤ 17 := by rw [List.length_take]; have : s.data.toList.length = s.size := rfl
                                                           omega
        have h2 := nvl_lt _ (s.data.toList.take k) rfl (fun c hc => HD.out c (List.mem_of_mem_take hc))
        rw [← HX.out] at h2
        exact Nat.lt_of_lt_of_le h2 (Nat.le_trans (Nat.pow_le_pow_right (by omega) h1) (by decide))
      clear hx
      obtain ⟨c, hcd⟩ : ∃ c : Nat, s[k].toNat = 48 + c := ⟨s[k].toNat - 48, by omega⟩
      have hc9 : c ≤ 9 := by omega
      have e1 : IntKind.i64.wrap ((x : Int) * 10) = (x : Int) * 10 := IntWalk.i64_in _ (by omega)
      have e2 : IntKind.u8.wrap ((s[k].toNat : Int) - 48) = (c : Int) := by
        rw [hcd, show (((48 + c : Nat) : Int) - 48) = (c : Int) by omega]
        exact IntWalk.u8_in _ (by omega)
      have e3 : IntKind.i64.wrap (c : Int) = (c : Int) := IntWalk.i64_in _ (by omega)
      have e4 : IntKind.i64.wrap ((x : Int) * 10 + (c : Int)) = (x : Int) * 10 + (c : Int) := IntWalk.i64_in _ (by omega)
      have HN : Hid (x * 10 + c = nvl (s.data.toList.take (k + 1))) := Lib.hid (by
        rw [nvl_take _ _ hlt', ← HX.out]
        have : (s.data.toList[k]'hlt').toNat = 48 + c := hcd
        omega)
      clear hc hcd HX
      go_wp2
      exact ⟨⟨k + 1, x * 10 + c, by omega, by go_num, by go_num, by simp, HN⟩, by simp [intOf] <;> omega⟩
    · have hi : ¬ (k : Int) < s.size := by omega
      go_wp2
      go_ret
      refine ⟨?_, rfl⟩
      have : s.data.toList.take k = s.data.toList := List.take_of_length_le (by have : s.data.toList.length = s.size := rfl; omega)
      rw [HX.out, this]
      rfl
end Go.Proofs.YtkbddelacjjapaaDoor.Mom
