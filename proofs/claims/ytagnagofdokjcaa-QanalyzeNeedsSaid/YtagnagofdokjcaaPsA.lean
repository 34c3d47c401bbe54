/-
  Package path: lists of steps that came in.
-/
import Derived.Test.YtagnagofdokjcaaRowOf
import Derived.Deep.Slices
import Derived.Deep.SlicePairs
import Derived.Deep.Strs
import Derived.ChangeArms
import Derived.Lib.SmallJoins
import Derived.Deep.Fields
import Derived.OpenShut
namespace Go.Proofs.Ytagnagofdokjcaa.Ps
open Go.RowKit
set_option linter.unusedVariables false
set_option linter.unusedSimpArgs false
open Go.ChangeShapes Go.WideShapes Go.Deep RO

/-- A step as it came in: by index, key, index. -/
structure St where
  b : Bool
  s : ByteArray
  x : Int
instance : Inhabited St := ⟨⟨false, ByteArray.empty, 0⟩⟩
def scs (d : St) : List Value := [.bool d.b, .string d.s, .int .i64 d.x]
/-- A step that can come in. -/
def St.ok (d : St) : Prop := d.s.size ≤ 9223372036854775807 ∧ -9223372036854775808 ≤ d.x ∧ d.x ≤ 9223372036854775807
set_option maxRecDepth 100000 in
theorem st_cells {H : Type} {enc : TypeId × Value → H} {w : World} {base : Nat} {spare : Nat → Bool} {held : Bool} {fuel : Nat} {cs : List Value} {x : DataW H × List MemPlace} {a : Addr} (h1 : w.cells? base a 3 = some cs) (h2 : DataW.trod enc Try.prog w base spare held fuel 27 cs = some x) :
    ∃ d : St, d.ok ∧ w.cell? (a.add 0) = some (.bool d.b) ∧ w.cell? (a.add 1) = some (.string d.s) ∧ w.cell? (a.add 2) = some (.int .i64 d.x) := by
  obtain ⟨_, hlen, hcell⟩ := World.cells?_some h1
  obtain ⟨y0, y1, y2, n, _, _, g0, g1, g2⟩ := trod_struct3 Try.underlying27 h2
  have k1 : Try.prog.cellsOf 4 = 1 := by kernel_rfl
  have k3 : Try.prog.cellsOf 3 = 1 := by kernel_rfl
  have k9 : Try.prog.cellsOf 9 = 1 := by kernel_rfl
  match cs, hlen with
  | [v0, v1, v2], _ =>
    simp only [k1, k3, k9] at g0 g1 g2
    obtain ⟨b0, q0, _⟩ := DataW.trod_bool Try.underlying4 g0
    obtain ⟨s1, q1, _, f1⟩ := DataW.trod_string Try.underlying9 g1
    obtain ⟨n2, q2, _, f2⟩ := DataW.trod_int Try.underlying3 g2
    simp at q0 q1 q2
    subst q0; subst q1; subst q2
    exact ⟨⟨b0, s1, n2⟩, ⟨by have h := f1; unfold maxLen at h; exact h, bounds_i64 f2⟩, by simpa using hcell 0 (by decide), by simpa using hcell 1 (by decide), by simpa using hcell 2 (by decide)⟩
/-- Steps to read. -/
def Ss (w : World) (B : Nat) (v : Value) (L : List St) : Prop := Rd scs 3 w B v L
theorem open_sts {H : Type} {enc : TypeId × Value → H} {w : World} {base : Nat} {spare : Nat → Bool} {held : Bool} {fuel : Nat} {x : DataW H × List MemPlace} {a : Option Addr} {n cap : Nat} (h : DataW.trod enc Try.prog w base spare held fuel 23 [.slice a n cap] = some x) :
    ∃ L : List St, L.length = n ∧ Ss w w.heap.size (.slice a n cap) L ∧ ∀ d ∈ L, d.ok := by
  have hce : Try.prog.cellsOf 27 = 3 := by kernel_rfl
  rcases open_slice Try.underlying23 h with ⟨h0, _⟩ | ⟨a', len, cap', m, f, D, Pl, h0, hb, hl, hm, hmm, _, hx⟩
  · simp at h0
    obtain ⟨rfl, rfl, rfl⟩ := h0
    exact ⟨[], rfl, .inl ⟨_, _, rfl, rfl⟩, fun d hd => by cases hd⟩
  · simp at h0
    obtain ⟨rfl, rfl, rfl⟩ := h0
    have hlm : n ≤ m := by rw [hmm]; split <;> omega
    have each : ∀ i, i < n → ∃ d : St, d.ok ∧ w.cell? ((a'.add (i * 3)).add 0) = some (.bool d.b) ∧ w.cell? ((a'.add (i * 3)).add 1) = some (.string d.s) ∧ w.cell? ((a'.add (i * 3)).add 2) = some (.int .i64 d.x) := fun i hi => by
      obtain ⟨cs', h1, h2⟩ := hx i (by omega)
      rw [hce] at h1
      exact st_cells h1 h2
    rcases Nat.eq_zero_or_pos n with hn | hn
    · subst hn
      exact ⟨[], rfl, .inl ⟨_, _, rfl, rfl⟩, fun d hd => by cases hd⟩
    obtain ⟨q, hq⟩ := choose_lt each
    obtain ⟨b, off, spot⟩ := a'
    have hs : spot = none := by
      have := World.cell?_spot (hq 0 hn).2.1
      simpa [Addr.add] using this
    subst hs
    have ad : ∀ k j, ((⟨b, off, none⟩ : Addr).add k).add j = ⟨b, off + k + j, none⟩ := fun k j => by unfold Addr.add; split <;> split <;> simp_all
    refine ⟨(List.range n).map q, by simp, .inr ⟨b, off, cap, by simp, ?_, by simpa using hl, hm, ?_⟩, ?_⟩
    · have := (hq 0 hn).2.1
      rw [ad] at this
      exact World.block_lt_of_cell? w _ this
    · intro i x j u hi hj
      have hin : i < n := by
        have := (List.getElem?_eq_some_iff.1 hi).1
        simpa using this
      have hqx : q i = x := by
        rw [List.getElem?_map, List.getElem?_range hin] at hi
        simpa using hi
      obtain ⟨_, e0, e1, e2⟩ := hq i hin
      rw [ad] at e0 e1 e2
      rw [hqx] at e0 e1 e2
      have hj3 : j < 3 := (List.getElem?_eq_some_iff.1 hj).1
      rcases (show j = 0 ∨ j = 1 ∨ j = 2 by omega) with rfl | rfl | rfl
      · have : Value.bool x.b = u := by simpa [scs] using hj
        rw [← this]; exact e0
      · have : Value.string x.s = u := by simpa [scs] using hj
        rw [← this]; exact e1
      · have : Value.int .i64 x.x = u := by simpa [scs] using hj
        rw [← this]; exact e2
    · intro d hd
      rw [List.mem_map] at hd
      obtain ⟨i, hi, rfl⟩ := hd
      rw [List.mem_range] at hi
      exact (hq i hi).1
theorem Ss.at_ {w : World} {B : Nat} {v : Value} {L : List St} (h : Ss w B v L) {n : Nat} (hn : L.length = n) (h0 : 0 < n) : ∃ g o cap, v = .slice (some ⟨g, o, none⟩) n cap ∧ g < B ∧ n ≤ cap ∧ cap ≤ 9223372036854775807 ∧ ∀ i d, L[i]? = some d → w.cell? ⟨g, o + i * 3, none⟩ = some (.bool d.b) ∧ w.cell? ⟨g, o + i * 3 + 1, none⟩ = some (.string d.s) ∧ w.cell? ⟨g, o + i * 3 + 2, none⟩ = some (.int .i64 d.x) := by
  subst hn
  obtain ⟨g, o, cap, hv, hg, hl, hm, hc⟩ := Rd.at_ h h0
  exact ⟨g, o, cap, hv, hg, hl, by unfold maxLen at hm; exact hm, fun i d hd => ⟨hc i d 0 _ hd rfl, hc i d 1 _ hd rfl, hc i d 2 _ hd rfl⟩⟩
theorem st_in {L : List St} {n k : Nat} (hn : L.length = n) (h : k < n) : ∃ d, L[k]? = some d := ⟨L[k]'(by omega), List.getElem?_eq_getElem _⟩
theorem drop_st {L : List St} {k : Nat} {d : St} (h : L[k]? = some d) : L.drop k = d :: L.drop (k + 1) := by
  obtain ⟨hk, rfl⟩ := List.getElem?_eq_some_iff.1 h
  exact List.drop_eq_getElem_cons hk
theorem ret_bool {a b : Bool} (h : a = b) : Ending.returned (.bool a) = .returned (.bool b) := by rw [h]
theorem ret_int {a b : Int} (h : a = b) : Ending.returned (.int .i64 a) = .returned (.int .i64 b) := by rw [h]
/-- The three cells of a step in a block of its own. -/
def sf (b : Bool) (s : ByteArray) (x : Int) : Nat → Value
  | 0 => .bool b
  | 1 => .string s
  | _ => .int .i64 x
def SC (w : World) (A : Nat) (b : Bool) (s : ByteArray) (x : Int) : Prop := w.rowIs A 27 3 (sf b s x)
section
variable {w w' : World} {A : Nat} {b : Bool} {s : ByteArray} {x : Int}
theorem SC.cells (h : SC w A b s x) : w.cell? ⟨A, 0, none⟩ = some (.bool b) ∧ w.cell? ⟨A, 1, none⟩ = some (.string s) ∧ w.cell? ⟨A, 2, none⟩ = some (.int .i64 x) :=
  ⟨World.rowIs.cell h (by decide), World.rowIs.cell h (by decide), World.rowIs.cell h (by decide)⟩
theorem SC.fz (h : SC w A b s x) (i : Nat) : w.frozen? ⟨A, i, none⟩ = false := World.rowIs.frozen h i
theorem SC.lt (h : SC w A b s x) : A < w.heap.size := World.rowIs.lt h
theorem SC.below {n : Nat} (h : SC w A b s x) (hb : Below n w w') (hn : A < n) : SC w' A b s x := World.rowIs.of_block h (hb.block A hn)
theorem SC.new (w : World) (b : Bool) (s : ByteArray) (x : Int) : SC (w.alloc (.cells #[.bool b, .string s, .int .i64 x] 27)) w.heap.size b s x :=
  World.rowIs_alloc w _ 27 (sf b s x) (fun i hi => by
    have hi' : i < 3 := hi
    rcases (show i = 0 ∨ i = 1 ∨ i = 2 by omega) with rfl | rfl | rfl <;> rfl)
theorem SC.alloc (h : SC w A b s x) (o : Obj) : SC (w.alloc o) A b s x := World.rowIs.alloc h o
theorem SC.dr (h : SC w A b s x) : SC w.drew A b s x := h
end
theorem tl_ne {s : ByteArray} (h : s.size ≠ 0) : ¬ s.toList = [] := by
  rw [ByteArray.toList_eq]
  intro e
  exact h (by have := congrArg List.length e; simpa using this)
theorem tl_ne' {s : ByteArray} (h : s.size ≠ 0) : s.toList.isEmpty = false := by
  cases e : s.toList with
  | nil => exact absurd e (tl_ne h)
  | cons a l => rfl
theorem tl_nil {s : ByteArray} (h : s.size = 0) : s.toList = [] := by
  rw [ByteArray.toList_eq]
  exact List.eq_nil_of_length_eq_zero (by simpa using h)
end Go.Proofs.Ytagnagofdokjcaa.Ps
