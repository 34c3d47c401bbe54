/-
  Package moment: the law MomentOrder.
-/
import Derived.Test.YtkbddelacjjapaaDoorMomZ
import Derived.Test.YtkbddelacjjapaaDoorMomY
namespace Go.Proofs.YtkbddelacjjapaaDoor.Mom
open Go.RowKit
set_option linter.unusedVariables false
set_option linter.unusedSimpArgs false
open Go.Proofs.YtkbddelacjjapaaDoor.Cal
structure T3 (w W : World) (k1 d1 n1 o1 k2 d2 n2 o2 k3 d3 n3 o3 : Int) : Prop where
  a : TB W w.heap.size k1 d1 n1 o1
  b : TB W (w.heap.size + 1) k2 d2 n2 o2
  c : TB W (w.heap.size + 2) k3 d3 n3 o3
  bel : Below w.heap.size w W
section
variable {w W W' : World} {k1 d1 n1 o1 k2 d2 n2 o2 k3 d3 n3 o3 : Int}
theorem T3.dr (h : T3 w W k1 d1 n1 o1 k2 d2 n2 o2 k3 d3 n3 o3) : T3 w W.drew k1 d1 n1 o1 k2 d2 n2 o2 k3 d3 n3 o3 := ⟨h.a, h.b, h.c, h.bel.drew⟩
theorem T3.step (hb : Below W.heap.size W W') (h : T3 w W k1 d1 n1 o1 k2 d2 n2 o2 k3 d3 n3 o3) : T3 w W' k1 d1 n1 o1 k2 d2 n2 o2 k3 d3 n3 o3 := ⟨h.a.below hb h.a.lt, h.b.below hb h.b.lt, h.c.below hb h.c.lt, h.bel.trans (hb.mono h.bel.size)⟩
theorem T3.cells (h : T3 w W k1 d1 n1 o1 k2 d2 n2 o2 k3 d3 n3 o3) : W.cell? ⟨w.heap.size, 0, none⟩ = some (.int .i64 k1) ∧ W.cell? ⟨w.heap.size, 1, none⟩ = some (.int .i64 d1) ∧ W.cell? ⟨w.heap.size, 2, none⟩ = some (.int .i64 n1) ∧ W.cell? ⟨w.heap.size, 3, none⟩ = some (.int .i64 o1) ∧ W.cell? ⟨w.heap.size + 1, 0, none⟩ = some (.int .i64 k2) ∧ W.cell? ⟨w.heap.size + 1, 1, none⟩ = some (.int .i64 d2) ∧ W.cell? ⟨w.heap.size + 1, 2, none⟩ = some (.int .i64 n2) ∧ W.cell? ⟨w.heap.size + 1, 3, none⟩ = some (.int .i64 o2) ∧ W.cell? ⟨w.heap.size + 2, 0, none⟩ = some (.int .i64 k3) ∧ W.cell? ⟨w.heap.size + 2, 1, none⟩ = some (.int .i64 d3) ∧ W.cell? ⟨w.heap.size + 2, 2, none⟩ = some (.int .i64 n3) ∧ W.cell? ⟨w.heap.size + 2, 3, none⟩ = some (.int .i64 o3) :=
  ⟨h.a.cells.1, h.a.cells.2.1, h.a.cells.2.2.1, h.a.cells.2.2.2, h.b.cells.1, h.b.cells.2.1, h.b.cells.2.2.1, h.b.cells.2.2.2, h.c.cells.1, h.c.cells.2.1, h.c.cells.2.2.1, h.c.cells.2.2.2⟩
theorem T3.all (h : T3 w W k1 d1 n1 o1 k2 d2 n2 o2 k3 d3 n3 o3) : T3 w W k1 d1 n1 o1 k2 d2 n2 o2 k3 d3 n3 o3 ∧ W.cell? ⟨w.heap.size, 0, none⟩ = some (.int .i64 k1) ∧ W.cell? ⟨w.heap.size, 1, none⟩ = some (.int .i64 d1) ∧ W.cell? ⟨w.heap.size, 2, none⟩ = some (.int .i64 n1) ∧ W.cell? ⟨w.heap.size, 3, none⟩ = some (.int .i64 o1) ∧ W.cell? ⟨w.heap.size + 1, 0, none⟩ = some (.int .i64 k2) ∧ W.cell? ⟨w.heap.size + 1, 1, none⟩ = some (.int .i64 d2) ∧ W.cell? ⟨w.heap.size + 1, 2, none⟩ = some (.int .i64 n2) ∧ W.cell? ⟨w.heap.size + 1, 3, none⟩ = some (.int .i64 o2) ∧ W.cell? ⟨w.heap.size + 2, 0, none⟩ = some (.int .i64 k3) ∧ W.cell? ⟨w.heap.size + 2, 1, none⟩ = some (.int .i64 d3) ∧ W.cell? ⟨w.heap.size + 2, 2, none⟩ = some (.int .i64 n3) ∧ W.cell? ⟨w.heap.size + 2, 3, none⟩ = some (.int .i64 o3) := ⟨h, h.cells⟩
end
theorem T3.new (w : World) (k1 d1 n1 o1 k2 d2 n2 o2 k3 d3 n3 o3 : Int) : T3 w (((w.alloc (.cells #[.int .i64 k1, .int .i64 d1, .int .i64 n1, .int .i64 o1] 23)).alloc (.cells #[.int .i64 k2, .int .i64 d2, .int .i64 n2, .int .i64 o2] 23)).alloc (.cells #[.int .i64 k3, .int .i64 d3, .int .i64 n3, .int .i64 o3] 23)) k1 d1 n1 o1 k2 d2 n2 o2 k3 d3 n3 o3 := by
  have h := TT.new w k1 d1 n1 o1 k2 d2 n2 o2
  refine ⟨h.a.alloc _, h.b.alloc _, ?_, h.bel.alloc h.bel.size _⟩
  have := TB.new ((w.alloc (.cells #[.int .i64 k1, .int .i64 d1, .int .i64 n1, .int .i64 o1] 23)).alloc (.cells #[.int .i64 k2, .int .i64 d2, .int .i64 n2, .int .i64 o2] 23)) k3 d3 n3 o3
  simpa using this
structure T4 (w W : World) (A : Nat) (k1 d1 n1 o1 k2 d2 n2 o2 k3 d3 n3 o3 ua ub uc ug : Int) : Prop where
  t : T3 w W k1 d1 n1 o1 k2 d2 n2 o2 k3 d3 n3 o3
  u : TB W A ua ub uc ug
section
variable {w W W' : World} {A : Nat} {k1 d1 n1 o1 k2 d2 n2 o2 k3 d3 n3 o3 ua ub uc ug : Int}
theorem T4.dr (h : T4 w W A k1 d1 n1 o1 k2 d2 n2 o2 k3 d3 n3 o3 ua ub uc ug) : T4 w W.drew A k1 d1 n1 o1 k2 d2 n2 o2 k3 d3 n3 o3 ua ub uc ug := ⟨h.t.dr, h.u⟩
theorem T4.step (hb : Below W.heap.size W W') (h : T4 w W A k1 d1 n1 o1 k2 d2 n2 o2 k3 d3 n3 o3 ua ub uc ug) : T4 w W' A k1 d1 n1 o1 k2 d2 n2 o2 k3 d3 n3 o3 ua ub uc ug := ⟨h.t.step hb, h.u.below hb h.u.lt⟩
theorem T4.bel (h : T4 w W A k1 d1 n1 o1 k2 d2 n2 o2 k3 d3 n3 o3 ua ub uc ug) : Below w.heap.size w W := h.t.bel
theorem T4.all (h : T4 w W A k1 d1 n1 o1 k2 d2 n2 o2 k3 d3 n3 o3 ua ub uc ug) : T4 w W A k1 d1 n1 o1 k2 d2 n2 o2 k3 d3 n3 o3 ua ub uc ug ∧ W.cell? ⟨w.heap.size, 0, none⟩ = some (.int .i64 k1) ∧ W.cell? ⟨w.heap.size, 1, none⟩ = some (.int .i64 d1) ∧ W.cell? ⟨w.heap.size, 2, none⟩ = some (.int .i64 n1) ∧ W.cell? ⟨w.heap.size, 3, none⟩ = some (.int .i64 o1) ∧ W.cell? ⟨w.heap.size + 1, 0, none⟩ = some (.int .i64 k2) ∧ W.cell? ⟨w.heap.size + 1, 1, none⟩ = some (.int .i64 d2) ∧ W.cell? ⟨w.heap.size + 1, 2, none⟩ = some (.int .i64 n2) ∧ W.cell? ⟨w.heap.size + 1, 3, none⟩ = some (.int .i64 o2) ∧ W.cell? ⟨w.heap.size + 2, 0, none⟩ = some (.int .i64 k3) ∧ W.cell? ⟨w.heap.size + 2, 1, none⟩ = some (.int .i64 d3) ∧ W.cell? ⟨w.heap.size + 2, 2, none⟩ = some (.int .i64 n3) ∧ W.cell? ⟨w.heap.size + 2, 3, none⟩ = some (.int .i64 o3) ∧ W.cell? ⟨A, 0, none⟩ = some (.int .i64 ua) ∧ W.cell? ⟨A, 1, none⟩ = some (.int .i64 ub) ∧ W.cell? ⟨A, 2, none⟩ = some (.int .i64 uc) ∧ W.cell? ⟨A, 3, none⟩ = some (.int .i64 ug) :=
  ⟨h, h.t.a.cells.1, h.t.a.cells.2.1, h.t.a.cells.2.2.1, h.t.a.cells.2.2.2, h.t.b.cells.1, h.t.b.cells.2.1, h.t.b.cells.2.2.1, h.t.b.cells.2.2.2, h.t.c.cells.1, h.t.c.cells.2.1, h.t.c.cells.2.2.1, h.t.c.cells.2.2.2, h.u.cells⟩
theorem T4.new (h : T3 w W k1 d1 n1 o1 k2 d2 n2 o2 k3 d3 n3 o3) (ua ub uc ug : Int) : T4 w (W.alloc (.cells #[.int .i64 ua, .int .i64 ub, .int .i64 uc, .int .i64 ug] 23)) W.heap.size k1 d1 n1 o1 k2 d2 n2 o2 k3 d3 n3 o3 ua ub uc ug :=
  ⟨⟨h.a.alloc _, h.b.alloc _, h.c.alloc _, h.bel.alloc h.bel.size _⟩, TB.new W ua ub uc ug⟩
end
end Go.Proofs.YtkbddelacjjapaaDoor.Mom
