/-
  Opening a law's arguments: an array of integers.
-/
import Derived.Test.YtjidjcnjgjmeoaaDoorBase
import Derived.ProofKit
import Derived.OpenShut
import Derived.ChangeOld
import Derived.Deep.Fields
namespace Go.Proofs.YtjidjcnjgjmeoaaDoor
open Go.RowKit Go.ChangeShapes Go.WideShapes Go.Deep

theorem open_arr_ints {H : Type} {enc : TypeId × Value → H} {P : Program} {w : World} {base b0 : Nat} {spare : Nat → Bool} {held : Bool} {r : Reach} {t e : TypeId} {n : Nat} {v : Value} {d : DataW H} {p : List MemPlace} {k : IntKind}
    (ht : P.underlying t = some (.array n e)) (he : P.underlying e = some (.int k)) (hce : P.cellsOf e = 1) (hct : P.cellsOf t = n)
    (hv : Value.okWide P w r b0 t v) (h : DataW.Trod enc P w base spare held t v d p) :
    ∃ ss : List Int, ss.length = n ∧ v = .agg (ss.map (Value.int k)).toArray ∧ ∀ s ∈ ss, (Lit.int k s).wf = true := by
  unfold Value.okWide at hv
  rw [ht] at hv
  obtain ⟨cs, rfl, hsz, _⟩ := hv
  obtain ⟨fuel, hf⟩ := h
  obtain ⟨xs, m, _, _, hl, hxl, hi⟩ := DataW.trod_array ht hf
  rw [hce] at hi
  have hcells : (Value.cells (.agg cs)).toList = cs.toList := by simp [Value.cells]
  rw [hcells] at hi hl
  have key : ∀ j, j < n → ∃ s : Int, cs.toList[j]? = some (.int k s) ∧ (Lit.int k s).wf = true := by
    intro j hj
    have := hi j hj
    rw [List.getElem?_eq_getElem (show j < xs.length by omega)] at this
    obtain ⟨s, hs, _, hsz⟩ := DataW.trod_int he this
    refine ⟨s, ?_, hsz⟩
    have h2 : (List.take 1 (List.drop (j * 1) cs.toList))[0]? = some (.int k s) := by rw [hs]; rfl
    simpa using h2
  refine ⟨cs.toList.map intOf, by rw [List.length_map, hl, hct], ?_, ?_⟩
  · congr 1
    apply Array.ext'
    simp only [List.map_map]
    apply List.ext_getElem?
    intro i
    by_cases hin : i < n
    · obtain ⟨s, hs, _⟩ := key i hin
      simp only [List.getElem?_map]
      rw [hs]; rfl
    · rw [List.getElem?_eq_none (by rw [hl, hct]; omega), List.getElem?_eq_none (by rw [List.length_map, hl, hct]; omega)]
  · intro s hs
    rw [List.mem_map] at hs
    obtain ⟨c, hc, rfl⟩ := hs
    obtain ⟨i, hin, rfl⟩ := List.getElem_of_mem hc
    obtain ⟨s, hs, hsz⟩ := key i (by rw [← hct, ← hl]; exact hin)
    rw [List.getElem?_eq_getElem hin] at hs
    injection hs with hs
    rw [hs]; exact hsz
end Go.Proofs.YtjidjcnjgjmeoaaDoor
