/-
  Contracts of package digits: products.
-/
import Derived.Test.YtjidjcnjgjmeoaaDoorDigE
import Derived.StillTailTactics
namespace Go.Proofs.YtjidjcnjgjmeoaaDoor.Dig
open Go.RowKit
set_option linter.unusedVariables false
set_option linter.unusedSimpArgs false

theorem digit_st {x i d : Nat} {w : World} (h : Hid (x / 10 ^ i % 10 = d)) (hx : (S x).size ≤ 9223372036854775807) (hi : i ≤ 9223372036854775807) : Calls Tryd.prog 41 #[.string (S x), .int .i64 i] w fun e w' => e = .returned (.int .i64 d) ∧ w' = w :=
  (digit_is h hx hi).mono fun _ _ ⟨he, hw⟩ => ⟨he, hw.symm⟩
theorem at_st {x i d : Nat} {w : World} (h : Hid (x / 10 ^ i % 10 = d)) (hx : (S x).size ≤ 9223372036854775807) (hi : i ≤ 9223372036854775807) : Calls Tryd.prog 45 #[.string (S x), .int .i64 i] w fun e w' => e = .returned (.int .i64 d) ∧ w' = w :=
  (at_is h hx hi).mono fun _ _ ⟨he, hw⟩ => ⟨he, hw.symm⟩

/-- A row of numbers, none of them above B, that stands for T. -/
def Conv (T B n : Nat) (l : List Nat) : Prop := l.length = n ∧ (∀ z ∈ l, z ≤ B) ∧ lev l = T
theorem Conv.start (n : Nat) : Conv 0 0 n (List.replicate n 0) := ⟨by simp, fun z hz => by rw [(List.mem_replicate.1 hz).2]; omega, lev_replicate n⟩
theorem Conv.get {T B n : Nat} {l : List Nat} (h : Conv T B n l) {p : Nat} (hp : p < n) : l.getD p 0 ≤ B := by
  rw [List.getD_eq_getElem?_getD, List.getElem?_eq_getElem (by rw [h.1]; exact hp)]
  exact h.2.1 _ (List.getElem_mem _)
theorem Conv.more {T B B' n : Nat} {l : List Nat} (h : Conv T B n l) (hB : B ≤ B') : Conv T B' n l := ⟨h.1, fun z hz => Nat.le_trans (h.2.1 z hz) hB, h.2.2⟩
theorem Conv.step {T T' B n p d v : Nat} {l : List Nat} (h : Conv T B n l) (hp : p < n) (hd : d ≤ 100) (hv : v = l.getD p 0 + d) (hT : T' = T + 10 ^ p * d) : Conv T' (B + 100) n (l.set p v) := by
  obtain ⟨h1, h2, h3⟩ := h
  have hp' : p < l.length := by omega
  have hg : l.getD p 0 = l[p] := by rw [List.getD_eq_getElem?_getD, List.getElem?_eq_getElem hp']; rfl
  refine ⟨by simpa using h1, fun z hz => ?_, ?_⟩
  · rcases List.mem_or_eq_of_mem_set hz with h | h
    · have := h2 z h; omega
    · have := h2 _ (List.getElem_mem hp'); omega
  · have := lev_set (x := v) hp'
    rw [hv, hg, Nat.mul_add] at this
    rw [hv, hg]
    omega

end Go.Proofs.YtjidjcnjgjmeoaaDoor.Dig
