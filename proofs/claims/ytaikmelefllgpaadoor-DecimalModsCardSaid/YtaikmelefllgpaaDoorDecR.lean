/-
  Contracts of package decimal: differences; plain facts of the ring.
-/
import Derived.Test.YtaikmelefllgpaaDoorDecP
namespace Go.Proofs.YtaikmelefllgpaaDoor.Dec
open Go.RowKit
set_option linter.unusedVariables false
set_option linter.unusedSimpArgs false
open Go.Proofs.YtaikmelefllgpaaDoor.Dig

def ngG (g : Bool) (n : Nat) : Bool := if n = 0 then false else !g
theorem ok_neg {g : Bool} {n : Nat} {x : Int} (h : okD g n x) : okD (ngG g n) n x ∧ V (ngG g n) n x = -V g n x := by
  unfold ngG
  rcases h with ⟨rfl, rfl, rfl⟩ | ⟨h, r⟩
  · exact ⟨.inl ⟨rfl, rfl, rfl⟩, by rw [V_zero, V_zero]; rfl⟩
  · rw [if_neg (by omega)]
    refine ⟨.inr ⟨h, r⟩, ?_⟩
    unfold V
    cases g <;> simp
def subR (g1 : Bool) (n1 : Nat) (x1 : Int) (g2 : Bool) (n2 : Nat) (x2 : Int) : Bool × Nat × Int × Int := addR g1 n1 x1 (ngG g2 n2) n2 x2
end Go.Proofs.YtaikmelefllgpaaDoor.Dec
