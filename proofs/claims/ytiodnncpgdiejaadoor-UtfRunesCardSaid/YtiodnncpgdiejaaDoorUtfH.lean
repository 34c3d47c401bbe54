/-
  Contracts of the reference of utf: number of characters, slices; the law's walk: UtfCounts.
-/
import Derived.Test.YtiodnncpgdiejaaDoorUtfG
namespace Go.Proofs.YtiodnncpgdiejaaDoor.Utf
open Go.RowKit
set_option linter.unusedVariables false
set_option linter.unusedSimpArgs false

/-- What a slice of boundaries holds. -/
theorem bcells_at {w : World} {base k : Nat} {v : Value} (l : List UInt8) (h : w.ownsRow base 3 1 v (k + 1) (bcells l (k + 1))) : ∃ g cap, v = .slice (some ⟨g, 0, none⟩) (k + 1) cap ∧ ∀ i, i ≤ k → w.cell? ⟨g, i, none⟩ = some (.int .i64 (off l i : Nat)) := by
  rcases h.2 with ⟨_, h0⟩ | ⟨g, cap, _, rfl, _⟩
  · omega
  · refine ⟨g, cap, rfl, fun i hi => ?_⟩
    rw [World.ownsRow.cellAt h i (by omega)]
    unfold bcells
    rw [List.getElem?_map, List.getElem?_range (by omega)]; rfl
/-- The slice by characters, and its error. -/
def slS (s : ByteArray) (a b : Int) : ByteArray := if vld s = true ∧ 0 ≤ a ∧ a ≤ b ∧ b ≤ nch s.data.toList then s.extract (off s.data.toList a.toNat) (off s.data.toList b.toNat) else ⟨#[]⟩
def slE (s : ByteArray) (a b : Int) : Int := if vld s = true then (if 0 ≤ a ∧ a ≤ b ∧ b ≤ nch s.data.toList then 0 else 2) else 5
end Go.Proofs.YtiodnncpgdiejaaDoor.Utf
