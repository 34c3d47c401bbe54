/-
  Opening a law's arguments: an array of three structs of a bool, a string and an int.
-/
import Derived.Test.YtelehjdhjjedhabDoorBase
import Derived.ProofKit
import Derived.OpenShut
import Derived.ChangeOld
import Derived.Deep.Fields
import Derived.Deep.Strs
import Derived.Lib.SmallJoins
namespace Go.Proofs.YtelehjdhjjedhabDoor
open Go.RowKit Go.ChangeShapes Go.WideShapes Go.Deep

theorem bsi_cells {H : Type} {enc : TypeId × Value → H} {P : Program} {w : World} {base : Nat} {spare : Nat → Bool} {held : Bool} {e : TypeId} {f0 f1 f2 : Field} {fuel : Nat} {c0 c1 c2 : Value} {x : DataW H × List MemPlace}
    (he : P.underlying e = some (.struct #[f0, f1, f2])) (hone : oneCellFields P #[f0, f1, f2] = true) (hb : P.underlying f0.type = some .bool) (hs : P.underlying f1.type = some .string) (hi : P.underlying f2.type = some (.int .i64))
    (h : DataW.trod enc P w base spare held fuel e [c0, c1, c2] = some x) : ∃ (g : Bool) (s : ByteArray) (n : Int), c0 = .bool g ∧ c1 = .string s ∧ c2 = .int .i64 n ∧ s.size ≤ maxLen ∧ (Lit.int .i64 n).wf = true := by
  obtain ⟨y0, y1, y2, n, hx, _, h0, h1, h2⟩ := trod_struct3 he h
  obtain ⟨o0, k0⟩ := hone_of hone 0 f0 rfl
  obtain ⟨o1, k1⟩ := hone_of hone 1 f1 rfl
  obtain ⟨o2, k2⟩ := hone_of hone 2 f2 rfl
  rw [o0, k0] at h0
  rw [o1, k1] at h1
  rw [o2, k2] at h2
  obtain ⟨b, e0, _⟩ := DataW.trod_bool hb h0
  obtain ⟨s, e1, _, w1⟩ := DataW.trod_string hs h1
  obtain ⟨m, e2, _, w2⟩ := DataW.trod_int hi h2
  simp at e0 e1 e2
  exact ⟨b, s, m, e0, e1, e2, w1, w2⟩
theorem list9 {α : Type} {l : List α} (h : l.length = 9) : ∃ a b c d e f g i j, l = [a, b, c, d, e, f, g, i, j] := by
  match l, h with
  | [a, b, c, d, e, f, g, i, j], _ => exact ⟨a, b, c, d, e, f, g, i, j, rfl⟩
theorem open_bsi3 {H : Type} {enc : TypeId × Value → H} {P : Program} {w : World} {base b0 : Nat} {spare : Nat → Bool} {held : Bool} {r : Reach} {t e : TypeId} {f0 f1 f2 : Field} {v : Value} {d : DataW H} {p : List MemPlace}
    (ht : P.underlying t = some (.array 3 e)) (he : P.underlying e = some (.struct #[f0, f1, f2])) (hone : oneCellFields P #[f0, f1, f2] = true) (hb : P.underlying f0.type = some .bool) (hs : P.underlying f1.type = some .string) (hi : P.underlying f2.type = some (.int .i64)) (hce : P.cellsOf e = 3) (hct : P.cellsOf t = 9)
    (hv : Value.okWide P w r b0 t v) (h : DataW.Trod enc P w base spare held t v d p) :
    ∃ (g1 : Bool) (s1 : ByteArray) (x1 : Int) (g2 : Bool) (s2 : ByteArray) (x2 : Int) (g3 : Bool) (s3 : ByteArray) (x3 : Int), v = .agg #[.bool g1, .string s1, .int .i64 x1, .bool g2, .string s2, .int .i64 x2, .bool g3, .string s3, .int .i64 x3] ∧
      (s1.size ≤ maxLen ∧ s2.size ≤ maxLen ∧ s3.size ≤ maxLen) ∧ (Lit.int .i64 x1).wf = true ∧ (Lit.int .i64 x2).wf = true ∧ (Lit.int .i64 x3).wf = true := by
  unfold Value.okWide at hv
  rw [ht] at hv
  obtain ⟨cs, rfl, hsz, _⟩ := hv
  obtain ⟨fuel, hf⟩ := h
  obtain ⟨xs, m, _, _, hl, hxl, hx⟩ := DataW.trod_array ht hf
  have hcells : (Value.cells (.agg cs)).toList = cs.toList := by simp [Value.cells]
  rw [hcells] at hx hl
  rw [hce] at hx
  obtain ⟨a, b, c, d, e', f, g, i, j, hcs⟩ := list9 (hl.trans hct)
  have q0 := hx 0 (by omega)
  have q1 := hx 1 (by omega)
  have q2 := hx 2 (by omega)
  rw [hcs, List.getElem?_eq_getElem (by omega)] at q0 q1 q2
  obtain ⟨g1, s1, x1, rfl, rfl, rfl, w1, u1⟩ := bsi_cells he hone hb hs hi q0
  obtain ⟨g2, s2, x2, rfl, rfl, rfl, w2, u2⟩ := bsi_cells he hone hb hs hi q1
  obtain ⟨g3, s3, x3, rfl, rfl, rfl, w3, u3⟩ := bsi_cells he hone hb hs hi q2
  exact ⟨g1, s1, x1, g2, s2, x2, g3, s3, x3, congrArg Value.agg (Array.ext' hcs), ⟨w1, w2, w3⟩, u1, u2, u3⟩
end Go.Proofs.YtelehjdhjjedhabDoor
