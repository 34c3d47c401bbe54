/-
  Package moment and its reference: shifted times.
-/
import Derived.Test.YtkbddelacjjapaaDoorMomC
namespace Go.Proofs.YtkbddelacjjapaaDoor.Mom
open Go.RowKit
set_option linter.unusedVariables false
set_option linter.unusedSimpArgs false

/-- The time some days and nanoseconds later. -/
def sD (d n days nanos : Int) : Int := d + days + (n + nanos) / 86400000000000
def sN (n nanos : Int) : Int := (n + nanos) % 86400000000000
def sR (k d n o days nanos : Int) : Int × Int × Int × Int × Int := if vP k d n o then (if (k = 1 ∧ nanos ≠ 0) ∨ (k = 2 ∧ days ≠ 0) then (0, 0, 0, 0, 6) else if days < -14608232 ∨ 14608232 < days then (0, 0, 0, 0, 2) else if k = 2 ∧ sD d n days nanos ≠ 0 then (0, 0, 0, 0, 2) else dR k (sD d n days nanos) (sN n nanos) o) else (0, 0, 0, 0, 1)
theorem T2.put {w W : World} {k d n o : Int} (h : T2 w W k d n o) (d' n' : Int) : T2 w ((W.setCell ⟨w.heap.size, 1, none⟩ (.int .i64 d')).setCell ⟨w.heap.size, 2, none⟩ (.int .i64 n')) k d' n' o := by
  have blk : ∀ j, j ≠ w.heap.size → ((W.setCell ⟨w.heap.size, 1, none⟩ (.int .i64 d')).setCell ⟨w.heap.size, 2, none⟩ (.int .i64 n')).heap[j]? = W.heap[j]? := fun j hj => by
    rw [Below.heap_setCell _ _ _ _ hj, Below.heap_setCell _ _ _ _ hj]
  refine ⟨?_, World.rowIs.of_block h.c (blk _ (by omega)), (h.bel.setCell (by simp) _).setCell (by simp) _⟩
  exact ((World.rowIs.set h.a 1 _).set 2 _).congr fun i hi => by
    rcases (show i = 0 ∨ i = 1 ∨ i = 2 ∨ i = 3 by omega) with rfl | rfl | rfl | rfl <;> rfl
end Go.Proofs.YtkbddelacjjapaaDoor.Mom
