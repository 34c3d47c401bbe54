/-
  A package-level array of strings, as a call finds it.
-/
import Derived.Test.YthkeiogkadldmaaDoorBase
import Derived.Lib.LaidU8
import Derived.OpenShut
import Derived.Laws.Rows
namespace Go.Proofs.YthkeiogkadldmaaDoor
open Go.RowKit
set_option linter.unusedVariables false
set_option linter.unusedSimpArgs false

theorem toList_data (s : ByteArray) : s.toList = s.data.toList := by
  obtain ⟨⟨l⟩⟩ := s; exact ByteArray.toList_mk l
theorem ba_ext {a b : ByteArray} (h : a.data.toList = b.data.toList) : a = b := by
  cases a; cases b; congr 1; exact Array.ext' h
theorem beq_no {a b : ByteArray} (h : a ≠ b) : (a.toList == b.toList) = false := by
  rw [beq_eq_false_iff_ne, toList_data, toList_data]
  exact fun e => h (ba_ext e)
/-- The array's cells. -/
def strs (L : List (List UInt8)) : Array Value := (L.map fun s => Value.string ⟨s.toArray⟩).toArray
theorem strs_of_reads {P : Program} {W : World} {name : String} {L : List (List UInt8)} {d : DataW Unit} {g : Nat} {t e : TypeId} {n : Nat}
    (hg : P.globalNamed name = some g) (hty : (P.globals[g]?).map (·.type) = some t) (ht : P.underlying t = some (.array n e)) (he : P.underlying e = some .string) (hce : P.cellsOf e = 1) (hct : P.cellsOf t = n)
    (h : Lib.VarReads P W name d) (hd' : d = .agg (L.map fun s => .lit (.string s))) : ∃ t' fr, W.heap[g]? = some (.cells (strs L) t' fr) := by
  subst hd'
  obtain ⟨g', t', cs, fuel, p, hg', ht', hvar, hd⟩ := h
  obtain rfl := Option.some.inj (hg.symm.trans hg')
  obtain rfl := Option.some.inj (hty.symm.trans ht')
  obtain ⟨xs, m, rfl, hx, hl, hxl, hi⟩ := DataW.trod_array ht hd
  rw [hce] at hi
  have hfst : xs.map (·.1) = L.map fun s => (DataW.lit (.string s) : DataW Unit) := by
    have := congrArg Prod.fst hx
    simpa using this.symm
  have hLn : L.length = n := by
    have := congrArg List.length hfst
    simp at this; omega
  have hcs : cs = strs L := by
    apply Array.ext'
    unfold strs
    apply List.ext_getElem?
    intro i
    by_cases hin : i < n
    · have h1 := hi i hin
      rw [List.getElem?_eq_getElem (show i < xs.length by omega)] at h1
      obtain ⟨s, hs, hx2, _⟩ := DataW.trod_string he h1
      have h2 : (List.take 1 (List.drop (i * 1) cs.toList))[0]? = some (.string s) := by rw [hs]; rfl
      have h3 : cs.toList[i]? = some (.string s) := by simpa using h2
      rw [h3]
      have h4 : (xs.map (·.1))[i]? = some (xs[i]'(by omega)).1 := by rw [List.getElem?_map, List.getElem?_eq_getElem (by omega)]; rfl
      rw [hfst, List.getElem?_map, List.getElem?_eq_getElem (show i < L.length by omega)] at h4
      have h5 : (DataW.lit (.string L[i]) : DataW Unit) = (xs[i]'(by omega)).1 := Option.some.inj h4
      rw [hx2] at h5
      injection h5 with h5
      injection h5 with h5
      simp only [List.getElem?_map]
      rw [List.getElem?_eq_getElem (show i < L.length by omega), h5]
      cases s; rfl
    · rw [List.getElem?_eq_none (by rw [hl, hct]; omega), List.getElem?_eq_none (by simp; omega)]
  unfold World.var? at hvar
  rw [hg] at hvar
  simp only [Option.bind_some] at hvar
  split at hvar
  · next cs' t' fr heq =>
    injection hvar with hvar
    subst hvar
    rw [hcs] at heq
    exact ⟨_, _, heq⟩
  · cases hvar
/-- An element of an array by value. -/
theorem index_strs {P : Program} {L : List (List UInt8)} {t e : TypeId} {n : Nat} (ht : P.underlying t = some (.array n e)) (he : P.underlying e = some .string) (hce : (P.info? e).map (·.size) = some 1) (hn : L.length = n) (k : Nat) (hk : k < n) (w : World) :
    (Instr.index t (.agg (strs L)) (.int .i64 k)).run P w = .ok (.string ⟨(L.getD k []).toArray⟩) w := by
  have hn' : (0 ≤ (k : Int) ∧ (k : Int) < (n : Int)) := by omega
  have hs : ∀ w, (sizeOf e).run P w = .ok 1 w := by
    intro w
    cases hq : P.info? e with
    | none => simp [hq] at hce
    | some i =>
      have : i.size = 1 := by simpa [hq] using hce
      simp [sizeOf, typeInfo, hq, this]
  have ha : ∀ w, (isAgg e).run P w = .ok false w := by
    intro w
    unfold isAgg
    rw [Sem.run_bind, run_underlying he w]
    rfl
  have hc : (strs L)[k]? = some (.string ⟨(L.getD k []).toArray⟩) := by
    unfold strs
    simp [List.getD_eq_getElem?_getD, List.getElem?_eq_getElem (show k < L.length by omega)]
  simp only [List.getD_eq_getElem?_getD] at hc
  simp [Instr.index, run_underlying ht, asIntOf, hn', go_sem, hs, ha, hk, hc]
end Go.Proofs.YthkeiogkadldmaaDoor
