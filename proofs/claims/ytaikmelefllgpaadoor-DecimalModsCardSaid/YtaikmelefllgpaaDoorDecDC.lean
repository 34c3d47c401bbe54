/-
  Package decimal: lists of decimals that came in; sums of lists.
-/
import Derived.Test.YtaikmelefllgpaaDoorRowOf
import Derived.Test.YtaikmelefllgpaaDoorDecX
import Derived.Deep.Slices
import Derived.Deep.SlicePairs
import Derived.Deep.Strs
import Derived.ChangeArms
import Derived.Lib.SmallJoins
namespace Go.Proofs.YtaikmelefllgpaaDoor.Dec
open Go.RowKit
set_option linter.unusedVariables false
set_option linter.unusedSimpArgs false
open Go.Proofs.YtaikmelefllgpaaDoor.Dig
open Go.ChangeShapes Go.WideShapes Go.Deep RO

/-- A decimal as it came in: sign, digits, exponent. -/
structure De where
  g : Bool
  s : ByteArray
  x : Int
instance : Inhabited De := ⟨⟨false, ByteArray.empty, 0⟩⟩
def dcs (d : De) : List Value := [.bool d.g, .string d.s, .int .i64 d.x]
/-- A decimal that can come in. -/
def De.ok (d : De) : Prop := d.s.size ≤ 9223372036854775807 ∧ -9223372036854775808 ≤ d.x ∧ d.x ≤ 9223372036854775807
set_option maxRecDepth 100000 in
theorem de_cells {H : Type} {enc : TypeId × Value → H} {w : World} {base : Nat} {spare : Nat → Bool} {held : Bool} {fuel : Nat} {cs : List Value} {x : DataW H × List MemPlace} {a : Addr} (h1 : w.cells? base a 3 = some cs) (h2 : DataW.trod enc Tryd.prog w base spare held fuel 23 cs = some x) :
    ∃ d : De, d.ok ∧ w.cell? (a.add 0) = some (.bool d.g) ∧ w.cell? (a.add 1) = some (.string d.s) ∧ w.cell? (a.add 2) = some (.int .i64 d.x) := by
  obtain ⟨_, hlen, hcell⟩ := World.cells?_some h1
  obtain ⟨y0, y1, y2, n, _, _, g0, g1, g2⟩ := trod_struct3 Tryd.underlying23 h2
  have k1 : Tryd.prog.cellsOf 4 = 1 := by kernel_rfl
  have k3 : Tryd.prog.cellsOf 3 = 1 := by kernel_rfl
  have k9 : Tryd.prog.cellsOf 9 = 1 := by kernel_rfl
  match cs, hlen with
  | [v0, v1, v2], _ =>
    simp only [k1, k3, k9] at g0 g1 g2
    obtain ⟨b0, q0, _⟩ := DataW.trod_bool Tryd.underlying4 g0
    obtain ⟨s1, q1, _, f1⟩ := DataW.trod_string Tryd.underlying9 g1
    obtain ⟨n2, q2, _, f2⟩ := DataW.trod_int Tryd.underlying3 g2
    simp at q0 q1 q2
    subst q0; subst q1; subst q2
    exact ⟨⟨b0, s1, n2⟩, ⟨by have h := f1; unfold maxLen at h; exact h, bounds_i64 f2⟩, by simpa using hcell 0 (by decide), by simpa using hcell 1 (by decide), by simpa using hcell 2 (by decide)⟩
/-- Decimals to read. -/
def Ds (w : World) (B : Nat) (v : Value) (L : List De) : Prop := Rd dcs 3 w B v L
theorem open_des {H : Type} {enc : TypeId × Value → H} {w : World} {base : Nat} {spare : Nat → Bool} {held : Bool} {fuel : Nat} {x : DataW H × List MemPlace} {a : Option Addr} {n cap : Nat} (h : DataW.trod enc Tryd.prog w base spare held fuel 24 [.slice a n cap] = some x) :
    ∃ L : List De, L.length = n ∧ Ds w w.heap.size (.slice a n cap) L ∧ ∀ d ∈ L, d.ok := by
  have hce : Tryd.prog.cellsOf 23 = 3 := by kernel_rfl
  rcases open_slice Tryd.underlying24 h with ⟨h0, _⟩ | ⟨a', len, cap', m, f, D, Pl, h0, hb, hl, hm, hmm, _, hx⟩
  · simp at h0
    obtain ⟨rfl, rfl, rfl⟩ := h0
    exact ⟨[], rfl, .inl ⟨_, _, rfl, rfl⟩, fun d hd => by cases hd⟩
  · simp at h0
    obtain ⟨rfl, rfl, rfl⟩ := h0
    have hlm : n ≤ m := by rw [hmm]; split <;> omega
    have each : ∀ i, i < n → ∃ d : De, d.ok ∧ w.cell? ((a'.add (i * 3)).add 0) = some (.bool d.g) ∧ w.cell? ((a'.add (i * 3)).add 1) = some (.string d.s) ∧ w.cell? ((a'.add (i * 3)).add 2) = some (.int .i64 d.x) := fun i hi => by
      obtain ⟨cs', h1, h2⟩ := hx i (by omega)
      rw [hce] at h1
      exact de_cells h1 h2
    rcases Nat.eq_zero_or_pos n with hn | hn
    · subst hn
      exact ⟨[], rfl, .inl ⟨_, _, rfl, rfl⟩, fun d hd => by cases hd⟩
    obtain ⟨q, hq⟩ := choose_lt each
    obtain ⟨b, off, spot⟩ := a'
    have hs : spot = none := by
      have := World.cell?_spot (hq 0 hn).2.1
      simpa [Addr.add] using this
    subst hs
    have ad : ∀ k j, ((⟨b, off, none⟩ : Addr).add k).add j = ⟨b, off + k + j, none⟩ := fun k j => by unfold Addr.add; split <;> split <;> simp_all
    refine ⟨(List.range n).map q, by simp, .inr ⟨b, off, cap, by simp, ?_, by simpa using hl, hm, ?_⟩, ?_⟩
    · have := (hq 0 hn).2.1
      rw [ad] at this
      exact World.block_lt_of_cell? w _ this
    · intro i x j u hi hj
      have hin : i < n := by
        have := (List.getElem?_eq_some_iff.1 hi).1
        simpa using this
      have hqx : q i = x := by
        rw [List.getElem?_map, List.getElem?_range hin] at hi
        simpa using hi
      obtain ⟨_, e0, e1, e2⟩ := hq i hin
      rw [ad] at e0 e1 e2
      rw [hqx] at e0 e1 e2
      have hj3 : j < 3 := (List.getElem?_eq_some_iff.1 hj).1
      rcases (show j = 0 ∨ j = 1 ∨ j = 2 by omega) with rfl | rfl | rfl
      · have : Value.bool x.g = u := by simpa [dcs] using hj
        rw [← this]; exact e0
      · have : Value.string x.s = u := by simpa [dcs] using hj
        rw [← this]; exact e1
      · have : Value.int .i64 x.x = u := by simpa [dcs] using hj
        rw [← this]; exact e2
    · intro d hd
      rw [List.mem_map] at hd
      obtain ⟨i, hi, rfl⟩ := hd
      rw [List.mem_range] at hi
      exact (hq i hi).1
theorem Ds.at_ {w : World} {B : Nat} {v : Value} {L : List De} (h : Ds w B v L) {n : Nat} (hn : L.length = n) (h0 : 0 < n) : ∃ g o cap, v = .slice (some ⟨g, o, none⟩) n cap ∧ g < B ∧ n ≤ cap ∧ cap ≤ 9223372036854775807 ∧ ∀ i d, L[i]? = some d → w.cell? ⟨g, o + i * 3, none⟩ = some (.bool d.g) ∧ w.cell? ⟨g, o + i * 3 + 1, none⟩ = some (.string d.s) ∧ w.cell? ⟨g, o + i * 3 + 2, none⟩ = some (.int .i64 d.x) := by
  subst hn
  obtain ⟨g, o, cap, hv, hg, hl, hm, hc⟩ := Rd.at_ h h0
  exact ⟨g, o, cap, hv, hg, hl, by unfold maxLen at hm; exact hm, fun i d hd => ⟨hc i d 0 _ hd rfl, hc i d 1 _ hd rfl, hc i d 2 _ hd rfl⟩⟩
theorem de_in {L : List De} {n k : Nat} (hn : L.length = n) (h : k < n) : ∃ d, L[k]? = some d := ⟨L[k]'(by omega), List.getElem?_eq_getElem _⟩
/-- A list's sum, or the first error. -/
def sumL : Bool → Nat → Int → List De → Bool × Nat × Int × Int
  | g, n, x, [] => (g, n, x, 0)
  | g, n, x, d :: t => if (addR g n x d.g (val d.s.data.toList) d.x).2.2.2 ≠ 0 then (false, 0, 0, (addR g n x d.g (val d.s.data.toList) d.x).2.2.2) else sumL (addR g n x d.g (val d.s.data.toList) d.x).1 (addR g n x d.g (val d.s.data.toList) d.x).2.1 (addR g n x d.g (val d.s.data.toList) d.x).2.2.1 t
theorem drop_de {L : List De} {k : Nat} {d : De} (h : L[k]? = some d) : L.drop k = d :: L.drop (k + 1) := by
  obtain ⟨hk, rfl⟩ := List.getElem?_eq_some_iff.1 h
  exact List.drop_eq_getElem_cons hk
theorem de_val {d : De} (h : vB d.g d.s d.x = true) : ∃ n, d.s = S n ∧ okD d.g n d.x ∧ val d.s.data.toList = n := by
  obtain ⟨n, hs, ho⟩ := vB_ok h
  exact ⟨n, hs, ho, by rw [hs]; exact val_num n⟩
theorem addR_ok {g1 : Bool} {n1 : Nat} {x1 : Int} {g2 : Bool} {n2 : Nat} {x2 : Int} (h1 : okD g1 n1 x1) (h2 : okD g2 n2 x2) : okD (addR g1 n1 x1 g2 n2 x2).1 (addR g1 n1 x1 g2 n2 x2).2.1 (addR g1 n1 x1 g2 n2 x2).2.2.1 := by
  unfold addR
  split
  · exact h2
  · split
    · exact h1
    · unfold sumR
      split
      · exact ok_nrm _ _ _
      · split <;> exact ok_nrm _ _ _
end Go.Proofs.YtaikmelefllgpaaDoor.Dec
