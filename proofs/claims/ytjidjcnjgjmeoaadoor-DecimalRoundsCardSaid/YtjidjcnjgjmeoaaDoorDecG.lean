/-
  Contracts of package decimal and its reference: products and quotients.
-/
import Derived.Test.YtjidjcnjgjmeoaaDoorDecE
import Derived.Deep.RegionHeld3
import Derived.IntWalk
namespace Go.Proofs.YtjidjcnjgjmeoaaDoor.Dec
open Go.RowKit
set_option linter.unusedVariables false
set_option linter.unusedSimpArgs false
open Go.Proofs.YtjidjcnjgjmeoaaDoor.Dig

theorem ok_size {g : Bool} {n : Nat} {x : Int} (h : okD g n x) : (S n).size ≤ 120 ∧ -400 ≤ x ∧ x ≤ 400 := by
  rcases h with ⟨rfl, rfl, rfl⟩ | ⟨_, _, hl, h1, h2⟩
  · exact ⟨by decide, by decide, by decide⟩
  · exact ⟨by rw [S_size]; exact hl, h1, h2⟩
theorem DC.dr {w : World} {A : Nat} {g : Bool} {s : ByteArray} {x : Int} (h : DC w A g s x) : DC w.drew A g s x := h
theorem T3.d {w W : World} {g1 g2 : Bool} {s1 s2 : ByteArray} {x1 x2 : Int} (h : T3 w W g1 s1 x1 g2 s2 x2) : T3 w W.drew g1 s1 x1 g2 s2 x2 := ⟨h.a.dr, h.b.dr, h.c.dr, h.bel.drew⟩
/-- Two decimals, and some result, in blocks of their own. -/
structure T4 (w W : World) (g1 : Bool) (s1 : ByteArray) (x1 : Int) (g2 : Bool) (s2 : ByteArray) (x2 : Int) : Prop where
  a : DC W w.heap.size g1 s1 x1
  b : DC W (w.heap.size + 1) g2 s2 x2
  c : ∃ g s x, DC W (w.heap.size + 2) g s x
  bel : Below w.heap.size w W
section
variable {w W W' : World} {g1 g2 : Bool} {s1 s2 : ByteArray} {x1 x2 : Int}
theorem T3.four (h : T3 w W g1 s1 x1 g2 s2 x2) : T4 w W g1 s1 x1 g2 s2 x2 := ⟨h.a, h.b, ⟨_, _, _, h.c⟩, h.bel⟩
theorem T4.d (h : T4 w W g1 s1 x1 g2 s2 x2) : T4 w W.drew g1 s1 x1 g2 s2 x2 := ⟨h.a.dr, h.b.dr, by obtain ⟨_, _, _, hc⟩ := h.c; exact ⟨_, _, _, hc.dr⟩, h.bel.drew⟩
theorem T4.step (hb : Below W.heap.size W W') (h : T4 w W g1 s1 x1 g2 s2 x2) : T4 w W' g1 s1 x1 g2 s2 x2 :=
  ⟨h.a.below hb h.a.lt, h.b.below hb h.b.lt, by obtain ⟨_, _, _, hc⟩ := h.c; exact ⟨_, _, _, hc.below hb hc.lt⟩, h.bel.trans (hb.mono h.bel.size)⟩
theorem T4.put (h : T4 w W g1 s1 x1 g2 s2 x2) (g : Bool) (s : ByteArray) (x : Int) : T4 w (((W.setCell ⟨w.heap.size + 2, 0, none⟩ (.bool g)).setCell ⟨w.heap.size + 2, 1, none⟩ (.string s)).setCell ⟨w.heap.size + 2, 2, none⟩ (.int .i64 x)) g1 s1 x1 g2 s2 x2 := by
  have blk : ∀ k, k ≠ w.heap.size + 2 → (((W.setCell ⟨w.heap.size + 2, 0, none⟩ (.bool g)).setCell ⟨w.heap.size + 2, 1, none⟩ (.string s)).setCell ⟨w.heap.size + 2, 2, none⟩ (.int .i64 x)).heap[k]? = W.heap[k]? := fun k hk => by
    rw [Below.heap_setCell _ _ _ _ hk, Below.heap_setCell _ _ _ _ hk, Below.heap_setCell _ _ _ _ hk]
  obtain ⟨g0, s0, z0, hc⟩ := h.c
  refine ⟨World.rowIs.of_block h.a (blk _ (by omega)), World.rowIs.of_block h.b (blk _ (by omega)), ⟨g, s, x, ?_⟩, ((h.bel.setCell (by simp) _).setCell (by simp) _).setCell (by simp) _⟩
  exact (((World.rowIs.set hc 0 _).set 1 _).set 2 _).congr fun i hi => by
    rcases (show i = 0 ∨ i = 1 ∨ i = 2 by omega) with rfl | rfl | rfl <;> rfl
theorem T4.all (h : T4 w W g1 s1 x1 g2 s2 x2) : T4 w W g1 s1 x1 g2 s2 x2 ∧ W.cell? ⟨w.heap.size, 0, none⟩ = some (.bool g1) ∧ W.cell? ⟨w.heap.size, 1, none⟩ = some (.string s1) ∧ W.cell? ⟨w.heap.size, 2, none⟩ = some (.int .i64 x1) ∧ W.cell? ⟨w.heap.size + 1, 0, none⟩ = some (.bool g2) ∧ W.cell? ⟨w.heap.size + 1, 1, none⟩ = some (.string s2) ∧ W.cell? ⟨w.heap.size + 1, 2, none⟩ = some (.int .i64 x2) :=
  ⟨h, h.a.cells.1, h.a.cells.2.1, h.a.cells.2.2, h.b.cells.1, h.b.cells.2.1, h.b.cells.2.2⟩
end
theorem S_prod {n1 n2 a b : Nat} (h1 : (S n1).size ≤ a) (h2 : (S n2).size ≤ b) : (S (n1 * n2)).size ≤ a + b := by
  rw [S_size, num_len] at *
  rw [Nat.pow_add]
  exact Nat.mul_lt_mul'' h1 h2
end Go.Proofs.YtjidjcnjgjmeoaaDoor.Dec
