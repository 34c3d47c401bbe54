/-
  A slice of acts that came in, opened.
-/
import Derived.Test.YtmmgfbnfjcbcfaaWinG
import Derived.Deep.Slices
import Derived.Deep.SlicePairs
import Derived.ChangeArms
import Derived.OpenShut
namespace Go.Proofs.Ytmmgfbnfjcbcfaa.Win
open Go.RowKit Go.ChangeShapes Go.WideShapes Go.Deep

theorem act_cells {H : Type} {enc : TypeId × Value → H} {w : World} {base : Nat} {spare : Nat → Bool} {held : Bool} {fuel : Nat} {cs : List Value} {x : DataW H × List MemPlace} {a : Addr} (h1 : w.cells? base a 4 = some cs) (h2 : DataW.trod enc Try.prog w base spare held fuel 34 cs = some x) :
    ∃ q : Int × ByteArray × Int × Int, w.cell? (a.add 0) = some (.int .i64 q.1) ∧ w.cell? (a.add 1) = some (.string q.2.1) ∧ w.cell? (a.add 2) = some (.int .i64 q.2.2.1) ∧ w.cell? (a.add 3) = some (.int .i64 q.2.2.2) ∧
      (Lit.int .i64 q.1).wf = true ∧ (Lit.int .i64 q.2.2.1).wf = true ∧ (Lit.int .i64 q.2.2.2).wf = true ∧ q.2.1.size ≤ maxLen := by
  obtain ⟨_, hlen, hcell⟩ := World.cells?_some h1
  obtain ⟨y0, y1, y2, y3, n, _, _, g0, g1, g2, g3⟩ := Joins.trod_struct4 Try.underlying34 h2
  have k3 : Try.prog.cellsOf 3 = 1 := by kernel_rfl
  have k9 : Try.prog.cellsOf 9 = 1 := by kernel_rfl
  match cs, hlen with
  | [v0, v1, v2, v3], _ =>
    simp only [k3, k9] at g0 g1 g2 g3
    obtain ⟨n0, e0, _, f0⟩ := DataW.trod_int Try.underlying3 g0
    obtain ⟨s1, e1, _, f1⟩ := DataW.trod_string Try.underlying9 g1
    obtain ⟨n2, e2, _, f2⟩ := DataW.trod_int Try.underlying3 g2
    obtain ⟨n3, e3, _, f3⟩ := DataW.trod_int Try.underlying3 g3
    simp at e0 e1 e2 e3
    subst e0; subst e1; subst e2; subst e3
    exact ⟨(n0, s1, n2, n3), by simpa using hcell 0 (by decide), by simpa using hcell 1 (by decide), by simpa using hcell 2 (by decide), by simpa using hcell 3 (by decide), f0, f2, f3, f1⟩
theorem open_acts {H : Type} {enc : TypeId × Value → H} {w : World} {base : Nat} {spare : Nat → Bool} {held : Bool} {fuel : Nat} {x : DataW H × List MemPlace} {a : Option Addr} {n cap : Nat} (h : DataW.trod enc Try.prog w base spare held fuel 22 [.slice a n cap] = some x) :
    (∃ kd st nn bb, Acts w a n kd st nn bb) := by
  have hce : Try.prog.cellsOf 34 = 4 := by kernel_rfl
  rcases open_slice Try.underlying22 h with ⟨h0, _⟩ | ⟨a', len, cap', m, f, D, Pl, h0, hb, hl, hm, hmm, _, hx⟩
  · simp at h0
    obtain ⟨rfl, rfl, rfl⟩ := h0
    exact ⟨fun _ => 0, fun _ => ByteArray.empty, fun _ => 0, fun _ => 0, Nat.zero_le _, fun i hi => by omega⟩
  · simp at h0
    obtain ⟨rfl, rfl, rfl⟩ := h0
    have hlm : n ≤ m := by rw [hmm]; split <;> omega
    have each : ∀ i, i < n → ∃ q : Int × ByteArray × Int × Int, w.cell? ((a'.add (i * 4)).add 0) = some (.int .i64 q.1) ∧ w.cell? ((a'.add (i * 4)).add 1) = some (.string q.2.1) ∧ w.cell? ((a'.add (i * 4)).add 2) = some (.int .i64 q.2.2.1) ∧ w.cell? ((a'.add (i * 4)).add 3) = some (.int .i64 q.2.2.2) ∧
      (Lit.int .i64 q.1).wf = true ∧ (Lit.int .i64 q.2.2.1).wf = true ∧ (Lit.int .i64 q.2.2.2).wf = true ∧ q.2.1.size ≤ maxLen := fun i hi => by
      obtain ⟨cs', h1, h2⟩ := hx i (by omega)
      rw [hce] at h1
      exact act_cells h1 h2
    obtain ⟨q, hq⟩ := choose_lt each
    refine ⟨fun i => (q i).1, fun i => (q i).2.1, fun i => (q i).2.2.1, fun i => (q i).2.2.2, ?_, fun i hi => ?_⟩
    · have h1 := Nat.le_trans hl hm
      unfold maxLen at h1; exact h1
    obtain ⟨e0, e1, e2, e3, f0, f2, f3, f1⟩ := hq i hi
    obtain ⟨b, off, spot⟩ := a'
    have hs : spot = none := by
      have := World.cell?_spot (hq 0 (by omega)).1
      simpa [Addr.add] using this
    subst hs
    have ad : ∀ k j, ((⟨b, off, none⟩ : Addr).add k).add j = ⟨b, off + k + j, none⟩ := fun k j => by unfold Addr.add; split <;> split <;> simp_all
    rw [ad] at e0 e1 e2 e3
    exact ⟨b, off, rfl, World.block_lt_of_cell? w _ e0, e0, e1, e2, e3, bounds_i64 f0, bounds_i64 f2, bounds_i64 f3, by have h := f1; unfold maxLen at h; exact h⟩
end Go.Proofs.Ytmmgfbnfjcbcfaa.Win
