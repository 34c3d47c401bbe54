/-
  Contracts of the reference of decimal: one exponent for two.
-/
import Derived.Test.YtaphckipkaggkaaGreatDoorDecN
import Derived.Deep.RegionHeld3
namespace Go.Proofs.YtaphckipkaggkaaGreatDoor.Dec
open Go.RowKit
set_option linter.unusedVariables false
set_option linter.unusedSimpArgs false
open Go.Proofs.YtaphckipkaggkaaGreatDoor.Dig

/-- A decimal in a block of its own. -/
structure P1 (w W : World) (g1 : Bool) (s1 : ByteArray) (x1 : Int) : Prop where
  a : DC W w.heap.size g1 s1 x1
  bel : Below w.heap.size w W
section
variable {w W W' : World} {g1 : Bool} {s1 : ByteArray} {x1 : Int}
theorem P1.d (h : P1 w W g1 s1 x1) : P1 w W.drew g1 s1 x1 := ⟨h.a.dr, h.bel.drew⟩
theorem P1.step (hb : Below W.heap.size W W') (h : P1 w W g1 s1 x1) : P1 w W' g1 s1 x1 := ⟨h.a.below hb h.a.lt, h.bel.trans (hb.mono h.bel.size)⟩
theorem P1.all (h : P1 w W g1 s1 x1) : P1 w W g1 s1 x1 ∧ W.cell? ⟨w.heap.size, 0, none⟩ = some (.bool g1) ∧ W.cell? ⟨w.heap.size, 1, none⟩ = some (.string s1) ∧ W.cell? ⟨w.heap.size, 2, none⟩ = some (.int .i64 x1) :=
  ⟨h, h.a.cells.1, h.a.cells.2.1, h.a.cells.2.2⟩
end
end Go.Proofs.YtaphckipkaggkaaGreatDoor.Dec
