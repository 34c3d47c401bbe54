/-
  Slices of things of several cells each, cut.
-/
import Derived.Test.YtfdfncffogjbdaaDoorRowOf
namespace Go.Proofs.YtfdfncffogjbdaaDoor.RO
open Go.RowKit
set_option linter.unusedVariables false
set_option linter.unusedSimpArgs false

variable {α : Type} {cs : α → List Value} {sz : Nat}
/-- A slice from its element m on. -/
theorem Rd.from_ {P : Program} {t e : TypeId} (ht : P.underlying t = some (.slice e)) (hsz : ∀ w, (sizeOf e).run P w = .ok sz w) {w : World} {B : Nat} {v : Value} {L : List α} (h : Rd cs sz w B v L) {m : Nat} (hm : m ≤ L.length) : ∃ v', Rd cs sz w B v' (L.drop m) ∧ ∀ w', (Instr.slice t v (some (.int .i64 m)) none none).run P w' = .ok v' w' := by
  have he : P.elem t = e := by simp [Program.elem, ht]
  have ht' : P.underlying t = some (.slice (P.elem t)) := by rw [he]; exact ht
  rcases h with ⟨a, c, rfl, rfl⟩ | ⟨g, o, cap, rfl, hg, h1, h2, hc⟩
  · have h0 : m = 0 := by simpa using hm
    subst h0
    refine ⟨sliced a 0 0 c sz, .inl ⟨_, _, rfl, rfl⟩, fun w' => ?_⟩
    rw [run_slice_l w' t a 0 c ht' .i64 _ (by simp) (by simp), he, hsz]
    rfl
  · by_cases hmn : m = L.length
    · refine ⟨.slice (if cap = m then some ⟨g, o, none⟩ else (some ⟨g, o, none⟩ : Option Addr).map (·.add (m * sz))) 0 (cap - m), .inl ⟨_, _, rfl, by rw [hmn]; simp⟩, fun w' => ?_⟩
      rw [run_slice_l w' t _ L.length cap ht' .i64 _ (by omega) (by omega), he, hsz]
      show Result.ok (sliced _ _ _ _ _) _ = _
      unfold sliced
      rw [Int.toNat_natCast, show L.length - m = 0 by omega]
    · refine ⟨.slice (some ⟨g, o + m * sz, none⟩) (L.length - m) (cap - m), .inr ⟨g, o + m * sz, cap - m, by rw [List.length_drop], hg, by rw [List.length_drop]; omega, by omega, fun i x j u hi hj => ?_⟩, fun w' => ?_⟩
      · rw [List.getElem?_drop] at hi
        have := hc (m + i) x j u hi hj
        rw [show o + m * sz + i * sz + j = o + (m + i) * sz + j by rw [Nat.add_mul]; omega]
        exact this
      · rw [run_slice_l w' t _ L.length cap ht' .i64 _ (by omega) (by omega), he, hsz]
        show Result.ok (sliced _ _ _ _ _) _ = _
        unfold sliced
        rw [Int.toNat_natCast, if_neg (by omega)]
        have ea : (⟨g, o, none⟩ : Addr).add (m * sz) = ⟨g, o + m * sz, none⟩ := by unfold Addr.add; simp
        simp only [Option.map_some, ea]
/-- The first m elements of a slice, without room behind them. -/
theorem Rd.to3 {P : Program} {t e : TypeId} (ht : P.underlying t = some (.slice e)) (hsz : ∀ w, (sizeOf e).run P w = .ok sz w) {w : World} {B : Nat} {v : Value} {L : List α} (h : Rd cs sz w B v L) {m : Nat} (hm : m ≤ L.length) : ∃ a', Rd cs sz w B (.slice a' m m) (L.take m) ∧ ∀ w', (Instr.slice t v none (some (.int .i64 m)) (some (.int .i64 m))).run P w' = .ok (.slice a' m m) w' := by
  have he : P.elem t = e := by simp [Program.elem, ht]
  have ht' : P.underlying t = some (.slice (P.elem t)) := by rw [he]; exact ht
  rcases h with ⟨a, c, rfl, rfl⟩ | ⟨g, o, cap, rfl, hg, h1, h2, hc⟩
  · have h0 : m = 0 := by simpa using hm
    subst h0
    refine ⟨a, .inl ⟨_, _, rfl, rfl⟩, fun w' => ?_⟩
    rw [run_slice_hm w' t a 0 c ht' .i64 .i64 _ _ (by simp) (by simp) (by simp), he, hsz]
    rfl
  · by_cases hm0 : m = 0
    · subst hm0
      refine ⟨some ⟨g, o, none⟩, .inl ⟨_, _, rfl, by simp⟩, fun w' => ?_⟩
      rw [run_slice_hm w' t _ L.length cap ht' .i64 .i64 _ _ (by simp) (by simp) (by simp), he, hsz]
      rfl
    · refine ⟨some ⟨g, o, none⟩, .inr ⟨g, o, m, by rw [List.length_take, Nat.min_eq_left hm], hg, by rw [List.length_take]; omega, by omega, fun i x j u hi hj => ?_⟩, fun w' => ?_⟩
      · have hin : i < m := by
          have := (List.getElem?_eq_some_iff.1 hi).1
          rw [List.length_take] at this; omega
        rw [List.getElem?_take_of_lt hin] at hi
        exact hc i x j u hi hj
      · rw [run_slice_hm w' t _ L.length cap ht' .i64 .i64 _ _ (by omega) (by omega) (by omega), he, hsz]
        show Result.ok (sliced _ _ _ _ _) _ = _
        unfold sliced
        rw [Int.toNat_natCast, if_neg (by omega)]
        have ea : (⟨g, o, none⟩ : Addr).add (0 * sz) = ⟨g, o, none⟩ := by unfold Addr.add; simp
        simp only [Option.map_some, ea, Nat.sub_zero]
/-- The first m elements of a slice. -/
theorem Rd.to_ {P : Program} {t e : TypeId} (ht : P.underlying t = some (.slice e)) (hsz : ∀ w, (sizeOf e).run P w = .ok sz w) {w : World} {B : Nat} {v : Value} {L : List α} (h : Rd cs sz w B v L) {m : Nat} (hm : m ≤ L.length) : ∃ a' c', Rd cs sz w B (.slice a' m c') (L.take m) ∧ ∀ w', (Instr.slice t v none (some (.int .i64 m)) none).run P w' = .ok (.slice a' m c') w' := by
  have he : P.elem t = e := by simp [Program.elem, ht]
  have ht' : P.underlying t = some (.slice (P.elem t)) := by rw [he]; exact ht
  rcases h with ⟨a, c, rfl, rfl⟩ | ⟨g, o, cap, rfl, hg, h1, h2, hc⟩
  · have h0 : m = 0 := by simpa using hm
    subst h0
    refine ⟨if c = 0 then a else a.map (·.add (0 * sz)), c, .inl ⟨_, _, rfl, rfl⟩, fun w' => ?_⟩
    rw [run_slice_h w' t a 0 c ht' .i64 _ (by simp) (by simp), he, hsz]
    rfl
  · by_cases hm0 : m = 0
    · subst hm0
      refine ⟨if cap = 0 then some ⟨g, o, none⟩ else (some ⟨g, o, none⟩ : Option Addr).map (·.add (0 * sz)), cap, .inl ⟨_, _, rfl, by simp⟩, fun w' => ?_⟩
      rw [run_slice_h w' t _ L.length cap ht' .i64 _ (by simp) (by simp), he, hsz]
      rfl
    · refine ⟨some ⟨g, o, none⟩, cap, .inr ⟨g, o, cap, by rw [List.length_take, Nat.min_eq_left hm], hg, by rw [List.length_take]; omega, by omega, fun i x j u hi hj => ?_⟩, fun w' => ?_⟩
      · have hin : i < m := by
          have := (List.getElem?_eq_some_iff.1 hi).1
          rw [List.length_take] at this; omega
        rw [List.getElem?_take_of_lt hin] at hi
        exact hc i x j u hi hj
      · rw [run_slice_h w' t _ L.length cap ht' .i64 _ (by omega) (by omega), he, hsz]
        show Result.ok (sliced _ _ _ _ _) _ = _
        unfold sliced
        rw [Int.toNat_natCast, if_neg (by omega)]
        have ea : (⟨g, o, none⟩ : Addr).add (0 * sz) = ⟨g, o, none⟩ := by unfold Addr.add; simp
        simp only [Option.map_some, ea, Nat.sub_zero]
end Go.Proofs.YtfdfncffogjbdaaDoor.RO
