/-
  Contracts of package decimal: the order.
-/
import Derived.Test.YtaphckipkaggkaaGreatDoorDecM
import Derived.Test.YtaphckipkaggkaaGreatDoorDecK
namespace Go.Proofs.YtaphckipkaggkaaGreatDoor.Dec
open Go.RowKit
set_option linter.unusedVariables false
set_option linter.unusedSimpArgs false
open Go.Proofs.YtaphckipkaggkaaGreatDoor.Dig

def sgn (g : Bool) (n : Nat) : Int := if n = 0 then 0 else if g then -1 else 1
def icmp (a b : Int) : Int := if a < b then -1 else if b < a then 1 else 0
/-- The order of two absolute values. -/
def cabs (n1 : Nat) (x1 : Int) (n2 : Nat) (x2 : Int) : Int := if icmp ((S n1).size + x1) ((S n2).size + x2) ≠ 0 then icmp ((S n1).size + x1) ((S n2).size + x2) else Lib.compareBytes (num n1) (num n2)
def dcmp (g1 : Bool) (n1 : Nat) (x1 : Int) (g2 : Bool) (n2 : Nat) (x2 : Int) : Int := if sgn g1 n1 ≠ sgn g2 n2 then icmp (sgn g1 n1) (sgn g2 n2) else if g1 then cabs n2 x2 n1 x1 else cabs n1 x1 n2 x2
theorem icmp_cases (a b : Int) : icmp a b = -1 ∨ icmp a b = 0 ∨ icmp a b = 1 := by
  unfold icmp; split
  · exact .inl rfl
  · split
    · exact .inr (.inr rfl)
    · exact .inr (.inl rfl)
/-- Two decimals in blocks of their own. -/
structure P2 (w W : World) (g1 : Bool) (s1 : ByteArray) (x1 : Int) (g2 : Bool) (s2 : ByteArray) (x2 : Int) : Prop where
  a : DC W w.heap.size g1 s1 x1
  b : DC W (w.heap.size + 1) g2 s2 x2
  bel : Below w.heap.size w W
section
variable {w W W' : World} {g1 g2 : Bool} {s1 s2 : ByteArray} {x1 x2 : Int}
theorem P2.d (h : P2 w W g1 s1 x1 g2 s2 x2) : P2 w W.drew g1 s1 x1 g2 s2 x2 := ⟨h.a.dr, h.b.dr, h.bel.drew⟩
theorem P2.step (hb : Below W.heap.size W W') (h : P2 w W g1 s1 x1 g2 s2 x2) : P2 w W' g1 s1 x1 g2 s2 x2 :=
  ⟨h.a.below hb h.a.lt, h.b.below hb h.b.lt, h.bel.trans (hb.mono h.bel.size)⟩
theorem P2.all (h : P2 w W g1 s1 x1 g2 s2 x2) : P2 w W g1 s1 x1 g2 s2 x2 ∧ W.cell? ⟨w.heap.size, 0, none⟩ = some (.bool g1) ∧ W.cell? ⟨w.heap.size, 1, none⟩ = some (.string s1) ∧ W.cell? ⟨w.heap.size, 2, none⟩ = some (.int .i64 x1) ∧ W.cell? ⟨w.heap.size + 1, 0, none⟩ = some (.bool g2) ∧ W.cell? ⟨w.heap.size + 1, 1, none⟩ = some (.string s2) ∧ W.cell? ⟨w.heap.size + 1, 2, none⟩ = some (.int .i64 x2) :=
  ⟨h, h.a.cells.1, h.a.cells.2.1, h.a.cells.2.2, h.b.cells.1, h.b.cells.2.1, h.b.cells.2.2⟩
end
theorem ne_f {a b : Int} (h : a ≠ b) : (a == b) = false := by rw [beq_eq_false_iff_ne]; exact h
end Go.Proofs.YtaphckipkaggkaaGreatDoor.Dec
