/-
  Opening a law's arguments: structs of integers by value.
-/
import Derived.Test.YthkpcanlimhhfaaBase
import Derived.ProofKit
import Derived.OpenShut
import Derived.ChangeOld
import Derived.Deep.Fields
namespace Go.Proofs.Ythkpcanlimhhfaa
open Go.RowKit Go.ChangeShapes Go.WideShapes Go.Deep

/-- A struct by value whose fields are integers of one cell each: its numbers. -/
theorem agg_ints {H : Type} {enc : TypeId × Value → H} {P : Program} {w : World} {base b0 : Nat} {spare : Nat → Bool} {held : Bool} {r : Reach} {t : TypeId} {fs : Array Field} {v : Value} {d : DataW H} {p : List MemPlace} {k : IntKind}
    (hs : P.underlying t = some (.struct fs)) (hone : oneCellFields P fs = true) (hC : P.cellsOf t = fs.size) (hty : ∀ (j : Nat) (f : Field), fs[j]? = some f → P.underlying f.type = some (.int k))
    (hv : Value.okWide P w r b0 t v) (h : DataW.Trod enc P w base spare held t v d p) :
    ∃ ns : List Int, ns.length = fs.size ∧ v = .agg (ns.map (Value.int k)).toArray ∧ ∀ n ∈ ns, (Lit.int k n).wf = true := by
  obtain ⟨cs, rfl, hsz⟩ := okWide_struct hs hv
  obtain ⟨fuel, hf⟩ := h
  obtain ⟨xs, n, _, _, _, hxl, hi⟩ := DataW.trod_struct hs hf
  have key : ∀ j, j < fs.size → ∃ m, (Value.cells (.agg cs)).toList[j]? = some (.int k m) ∧ (Lit.int k m).wf = true := by
    intro j hj
    have hfj : fs[j]? = some fs[j] := Array.getElem?_eq_getElem hj
    obtain ⟨ho, hk⟩ := hone_of hone j _ hfj
    have := hi j _ hfj
    rw [ho, hk] at this
    have hx : xs[j]? = some (xs[j]'(by omega)) := List.getElem?_eq_getElem (by omega)
    rw [hx] at this
    obtain ⟨m, hm, _, hw⟩ := DataW.trod_int (hty j _ hfj) this
    refine ⟨m, ?_, hw⟩
    have h2 : (List.take 1 (List.drop j (Value.cells (.agg cs)).toList))[0]? = some (.int k m) := by rw [hm]; rfl
    simpa using h2
  have hcells : (Value.cells (.agg cs)).toList = cs.toList := by simp [Value.cells]
  rw [hcells] at key
  refine ⟨cs.toList.map intOf, by simp; omega, ?_, ?_⟩
  · congr 1
    apply Array.ext'
    simp only [List.map_map]
    apply List.ext_getElem?
    intro i
    by_cases hi : i < fs.size
    · obtain ⟨m, hm, _⟩ := key i hi
      simp only [List.getElem?_map]
      rw [hm]; simp [intOf]
    · have hl : cs.toList.length = fs.size := by simp; omega
      rw [List.getElem?_eq_none (by omega), List.getElem?_eq_none (by simp; omega)]
  · intro n hn
    rw [List.mem_map] at hn
    obtain ⟨c, hc, rfl⟩ := hn
    obtain ⟨i, hi, rfl⟩ := List.getElem_of_mem hc
    have hl : cs.toList.length = fs.size := by simp; omega
    obtain ⟨m, hm, hw⟩ := key i (by omega)
    rw [List.getElem?_eq_getElem hi] at hm
    injection hm with hm
    rw [hm]; exact hw
theorem list1 {α : Type} {l : List α} (h : l.length = 1) : ∃ a, l = [a] := by
  match l, h with
  | [a], _ => exact ⟨a, rfl⟩
theorem list2 {α : Type} {l : List α} (h : l.length = 2) : ∃ a b, l = [a, b] := by
  match l, h with
  | [a, b], _ => exact ⟨a, b, rfl⟩
theorem list3 {α : Type} {l : List α} (h : l.length = 3) : ∃ a b c, l = [a, b, c] := by
  match l, h with
  | [a, b, c], _ => exact ⟨a, b, c, rfl⟩
theorem list4 {α : Type} {l : List α} (h : l.length = 4) : ∃ a b c d, l = [a, b, c, d] := by
  match l, h with
  | [a, b, c, d], _ => exact ⟨a, b, c, d, rfl⟩
theorem list5 {α : Type} {l : List α} (h : l.length = 5) : ∃ a b c d e, l = [a, b, c, d, e] := by
  match l, h with
  | [a, b, c, d, e], _ => exact ⟨a, b, c, d, e, rfl⟩
/-- The kinds of a struct's fields, asked one by one. -/
theorem kinds_all {P : Program} {fs : Array Field} {k : IntKind} (h : fs.all (fun f => match P.underlying f.type with | some (.int q) => decide (q = k) | _ => false) = true) : ∀ (j : Nat) (f : Field), fs[j]? = some f → P.underlying f.type = some (.int k) := by
  intro j f hf
  rw [Array.all_eq_true] at h
  obtain ⟨hj, rfl⟩ := Array.getElem?_eq_some_iff.1 hf
  have := h j hj
  split at this
  · next q hq => rw [hq]; simp at this; rw [this]
  · cases this

end Go.Proofs.Ythkpcanlimhhfaa
